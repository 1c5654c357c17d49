/-
  What package tree tells, as plain functions on plain data: the path of a member, its parts, its leafs, how a leaf counts in a member, how long paths are; and small facts on them.
-/
import Derived.Test.YtfgegmpoejilnaaGreatDoorJGBH
namespace Go.Proofs.YtfgegmpoejilnaaGreatDoor
theorem pathOf_len {M:Nat→Mem} {n:Nat} (ht:Tr M n) (k:Nat):∀ i:Int,i<n→i<k→(pathOf M i).length≤k:=by
 induction k with
 | zero=>intro i _ h;rw [pathOf_neg (by omega)];exact Nat.le_refl _
 | succ k ih =>
  intro i h1 h2
  by_cases h0:i<0
  ·rw [pathOf_neg h0];exact Nat.zero_le _
  ·obtain ⟨j,rfl⟩:∃ j:Nat,i=j:=⟨i.toNat,by omega⟩
   have:=ht j (by omega)
   rw [pathOf_cons ht (by omega),List.length_cons]
   have:=ih (M j).parent (by omega) (by omega)
   omega
def leafIn (M:Nat→Mem) (n:Nat) (i:Int) (k:Nat):Bool:=leafB M n k && inB (pathOf M k) i
def leafsOf (M:Nat→Mem) (n:Nat) (i:Int):List Int:=selTo (leafIn M n i) n
theorem treeErr_two {d:Dm} {i j:Int} (h:(dimErr d).2=0):treeErr d [i,j]=if i<0∨(d.n:Int)≤i∨j<0∨(d.n:Int)≤j then 1 else 0:=by
 unfold treeErr rangeErr;rw [if_neg (by simpa using h)]
 by_cases h1:i<0∨(d.n:Int)≤i
 ·have e:i<0∨(d.n:Int)≤i∨j<0∨(d.n:Int)≤j:=by omega
  rw [if_pos e];simp [findFrom,h1]
 ·by_cases h2:j<0∨(d.n:Int)≤j
  ·have e:i<0∨(d.n:Int)≤i∨j<0∨(d.n:Int)≤j:=by omega
   rw [if_pos e];simp [findFrom,h1,h2]
  ·have e : ¬ (i<0∨(d.n:Int)≤i∨j<0∨(d.n:Int)≤j):=by omega
   rw [if_neg e];simp [findFrom,h1,h2]
end Go.Proofs.YtfgegmpoejilnaaGreatDoor
namespace Go.Proofs.YtfgegmpoejilnaaGreatDoor
open Go Go.ChangeShapes Go.WideShapes Go.ChangeAt Go.RowKit Go.Deep
set_option maxRecDepth 100000
section
variable {H:Type} {enc:TypeId×Value→H} {w:World} {held:Bool}
theorem trod_one {P:Program} {base:Nat} {sp:Nat→Bool} {t:TypeId} {fs:Array Field} {fuel:Nat} {cs:List Value} {x:DataW H×List MemPlace} (ht:P.underlying t=some (.struct fs)) (hone:oneCellFields P fs=true) (h:DataW.trod enc P w base sp held fuel t cs=some x) :
  cs.length=P.cellsOf t∧∃ n,∀ (i:Nat) (f:Field) (v:Value),fs[i]?=some f→cs[i]?=some v→∃ y,DataW.trod enc P w base sp held n f.type [v]=some y:=by
 obtain ⟨xs,n,_,_,hl,hxs,hf⟩:=DataW.trod_struct ht h
 refine ⟨hl,n,fun i f v hi hv=>?_⟩
 obtain ⟨ho,hc⟩:=hone_of hone i f hi
 have hlt:i<fs.size:=(Array.getElem?_eq_some_iff.1 hi).1
 have e:=hf i f hi
 rw [ho,hc] at e
 obtain ⟨hi',hv'⟩:=List.getElem?_eq_some_iff.1 hv
 have ed:(cs.drop i).take 1=[v]:=by rw [List.drop_eq_getElem_cons hi',hv'];rfl
 rw [ed,List.getElem?_eq_getElem (by omega)] at e
 exact ⟨_,e⟩
theorem cellsM:Tryz.prog.cellsOf 27=4:=by kernel_rfl
theorem cellsD:Tryz.prog.cellsOf 30=3:=by kernel_rfl
theorem cellsO:Tryz.prog.cellsOf 24=1:=by kernel_rfl
theorem open_member {base:Nat} {sp:Nat→Bool} {fuel:Nat} {cs:List Value} {x:DataW H×List MemPlace} (h:DataW.trod enc Tryz.prog w base sp held fuel 27 cs=some x) :
  ∃ m:Mem,cs=[.string m.name,.int .i64 m.parent,.int .i64 m.sign,.string m.formula]:=by
 obtain ⟨hl,n,hf⟩:=trod_one Tryz.underlying27 (by kernel_rfl) h
 rw [cellsM] at hl
 match cs,hl with
 | [v0,v1,v2,v3],_ =>
  obtain ⟨y0,h0⟩:=hf 0 _ v0 rfl rfl
  obtain ⟨y1,h1⟩:=hf 1 _ v1 rfl rfl
  obtain ⟨y2,h2⟩:=hf 2 _ v2 rfl rfl
  obtain ⟨y3,h3⟩:=hf 3 _ v3 rfl rfl
  obtain ⟨s0,e0,-,-⟩:=DataW.trod_string Tryz.underlying9 h0
  obtain ⟨n1,e1,-,-⟩:=DataW.trod_int Tryz.underlying3 h1
  obtain ⟨n2,e2,-,-⟩:=DataW.trod_int Tryz.underlying3 h2
  obtain ⟨s3,e3,-,-⟩:=DataW.trod_string Tryz.underlying9 h3
  simp at e0 e1 e2 e3
  exact ⟨⟨s0,n1,n2,s3⟩,by rw [e0,e1,e2,e3]⟩
theorem open_members {fuel:Nat} {cs:List Value} {x:DataW H×List MemPlace} (h:DataW.trod enc Tryz.prog w 0 (fun _=>true) held fuel 28 cs=some x) :
  ∃ (A:Option Addr) (cap n:Nat) (M:Nat→Mem),cs=[.slice A n cap]∧MemsV w A cap n M:=by
 rcases open_slice Tryz.underlying28 h with ⟨rfl,-⟩ | ⟨a,len,cap,m,n,D,Pl,rfl,-,hl,-,hm,-,hx⟩
 ·exact ⟨none,0,0,fun _=>⟨default,0,0,default⟩,rfl,Nat.le_refl _,Or.inl rfl⟩
 rw [cellsM] at hx
 simp at hm
 subst hm
 haveI:Inhabited Mem:=⟨⟨default,0,0,default⟩⟩
 have each:∀ i,i<len→∃ y:Mem,w.cells? 0 (a.add (i*4)) 4=some [.string y.name,.int .i64 y.parent,.int .i64 y.sign,.string y.formula]:=fun i hi=>by
  obtain ⟨cs',h1,h2⟩:=hx i (by omega)
  obtain ⟨y,rfl⟩:=open_member h2
  exact ⟨y,h1⟩
 obtain ⟨M,hM⟩:=choose_lt each
 refine ⟨some a,_,len,M,rfl,hl,?_⟩
 rcases Nat.eq_zero_or_pos len with h0 | h0
 ·exact Or.inl h0
 right
 have c0:=(World.cells?_some (hM 0 h0)).2.2 0 (by omega)
 rw [add_add] at c0
 have hp:=addr_plain c0 (by omega)
 have hb:=World.block_lt_of_cell? _ _ c0
 refine ⟨a.block,a.off,by rw [←hp],by simpa [Addr.add] using hb,fun i hi=>?_⟩
 have hc:=(World.cells?_some (hM i hi)).2.2
 rw [hp] at hc
 simp only [plain_add,Nat.add_assoc] at hc
 refine ⟨?_,?_,?_,?_⟩
 ·have:=hc 0 (by omega);simpa using this
 ·have:=hc 1 (by omega);simpa [Nat.add_assoc] using this
 ·have:=hc 2 (by omega);simpa [Nat.add_assoc] using this
 ·have:=hc 3 (by omega);simpa [Nat.add_assoc] using this
theorem open_dim {fuel:Nat} {cs:List Value} {x:DataW H×List MemPlace} (h:DataW.trod enc Tryz.prog w 0 (fun _=>true) held fuel 30 cs=some x) :
  ∃ (d:Dm) (A:Option Addr) (c:Nat),cs=[.string d.name,.int .i64 d.solve,.slice A d.n c]∧MemsV w A c d.n d.mem:=by
 obtain ⟨hl,n,hf⟩:=trod_one Tryz.underlying30 (by kernel_rfl) h
 rw [cellsD] at hl
 match cs,hl with
 | [v0,v1,v2],_ =>
  obtain ⟨y0,h0⟩:=hf 0 _ v0 rfl rfl
  obtain ⟨y1,h1⟩:=hf 1 _ v1 rfl rfl
  obtain ⟨y2,h2⟩:=hf 2 _ v2 rfl rfl
  obtain ⟨s0,e0,-,-⟩:=DataW.trod_string Tryz.underlying9 h0
  obtain ⟨n1,e1,-,-⟩:=DataW.trod_int Tryz.underlying3 h1
  obtain ⟨A,cap,k,M,e2,hM⟩:=open_members h2
  simp at e0 e1 e2
  exact ⟨⟨s0,n1,k,M⟩,A,cap,by rw [e0,e1,e2],hM⟩
theorem open_dims {fuel:Nat} {cs:List Value} {x:DataW H×List MemPlace} (h:DataW.trod enc Tryz.prog w 0 (fun _=>true) held fuel 22 cs=some x) :
  ∃ (A0:Option Addr) (cap n:Nat) (D:Nat→Dm) (A:Nat→Option Addr) (C:Nat→Nat),cs=[.slice A0 n cap]∧DimsV w A0 cap n D A C:=by
 rcases open_slice Tryz.underlying22 h with ⟨rfl,-⟩ | ⟨a,len,cap,m,n,D,Pl,rfl,-,hl,-,hm,-,hx⟩
 ·exact ⟨none,0,0,fun _=>⟨default,0,0,fun _=>⟨default,0,0,default⟩⟩,fun _=>none,fun _=>0,rfl,Nat.le_refl _,Or.inl rfl⟩
 rw [cellsD] at hx
 simp at hm
 subst hm
 haveI:Inhabited Dm:=⟨⟨default,0,0,fun _=>⟨default,0,0,default⟩⟩⟩
 have each:∀ i,i<len→∃ y:Dm×Option Addr×Nat,w.cells? 0 (a.add (i*3)) 3=some [.string y.1.name,.int .i64 y.1.solve,.slice y.2.1 y.1.n y.2.2]∧MemsV w y.2.1 y.2.2 y.1.n y.1.mem:=fun i hi=>by
  obtain ⟨cs',h1,h2⟩:=hx i (by omega)
  obtain ⟨d,A,c,rfl,hm⟩:=open_dim h2
  exact ⟨(d,A,c),h1,hm⟩
 obtain ⟨Y,hY⟩:=choose_lt each
 refine ⟨some a,_,len,fun i=>(Y i).1,fun i=>(Y i).2.1,fun i=>(Y i).2.2,rfl,hl,?_⟩
 rcases Nat.eq_zero_or_pos len with h0 | h0
 ·exact Or.inl h0
 right
 have c0:=(World.cells?_some (hY 0 h0).1).2.2 0 (by omega)
 rw [add_add] at c0
 have hp:=addr_plain c0 (by omega)
 have hb:=World.block_lt_of_cell? _ _ c0
 refine ⟨a.block,a.off,by rw [←hp],by simpa [Addr.add] using hb,fun i hi=>?_⟩
 have hc:=(World.cells?_some (hY i hi).1).2.2
 rw [hp] at hc
 simp only [plain_add,Nat.add_assoc] at hc
 refine ⟨?_,?_,?_,(hY i hi).2⟩
 ·have:=hc 0 (by omega);simpa using this
 ·have:=hc 1 (by omega);simpa [Nat.add_assoc] using this
 ·have:=hc 2 (by omega);simpa [Nat.add_assoc] using this
theorem arr1 {α:Type} {a:Array α} (h:a.size=1):∃ x,a=#[x]:=by
 rcases a with ⟨l⟩
 match l,h with
 | [x],_=>exact ⟨x,rfl⟩
theorem open_outline {r:Reach} {b0:Nat} {v:Value} {d:DataW H} {p:List MemPlace} (hv:Value.okWide Tryz.prog w r b0 24 v) (h:DataW.Trod enc Tryz.prog w 0 (fun _=>true) held 24 v d p) :
  ∃ (A0:Option Addr) (cap n:Nat) (D:Nat→Dm) (A:Nat→Option Addr) (C:Nat→Nat),v=.agg #[.slice A0 n cap]∧DimsV w A0 cap n D A C:=by
 obtain ⟨cs,rfl,hsz⟩:=okWide_struct Tryz.underlying24 hv
 obtain ⟨c0,rfl⟩:=arr1 (hsz.trans cellsO)
 obtain ⟨fuel,hf⟩:=h
 obtain ⟨-,n,hy⟩:=trod_one Tryz.underlying24 (by kernel_rfl) hf
 obtain ⟨y0,h0⟩:=hy 0 _ c0 rfl rfl
 obtain ⟨A0,cap,k,D,A,C,e,hD⟩:=open_dims h0
 simp at e
 exact ⟨A0,cap,k,D,A,C,by rw [e],hD⟩
end
end Go.Proofs.YtfgegmpoejilnaaGreatDoor
namespace Go.Proofs.YtfgegmpoejilnaaGreatDoor
open Go.ChangeShapes Go.WideShapes Go.ChangeAt Go.RowKit
set_option maxRecDepth 20000
theorem IntsAt.nil (w:World) (A:Option Addr) (cap:Nat):IntsAt w A cap []:=⟨Nat.zero_le _,Or.inl rfl⟩
set_option maxHeartbeats 2000000 in
theorem path_any (b o n cap i:Nat) (M:Nat→Mem) (w:World) (hn:n≤12) (hi:i<n) (ht:Tr M n) (hM:MemsAt w b o n M):Calls Tryz.prog 134 #[.slice (some ⟨b,o,none⟩) n cap,.int .i64 i] w fun e w'=>(∃ A c,e=.returned (.slice A (pathOf M i).length c)∧IntsAt w' A c (pathOf M i))∧Below w.heap.size w w':=by
 obtain ⟨i0,hi0,hz0,hz1,hz2⟩:=info_parts Tryz.infoInt
 have HM:Hid (MemsAt w b o n M):=hM
 have HT:Hid (Tr M n):=ht
 have HL:Hid ((pathOf M i).length≤12):=by have:=pathOf_len ht n i (by omega) (by omega);show _≤_;omega
 have hn':(n:Int)≤12:=by omega
 clear hM ht
 go_enter Tryz.func134,Tryz.ntmps134
 go_wp2_with fail
 go_loopg [1,5] (i+1) (fun g s1 s5 wr => ∃ (k:Int) (L:List Int),-1≤k∧k<n∧g=(k+1).toNat∧s1=.int .i64 k∧L ++ pathOf M k=pathOf M i∧wr.ownsRow w.heap.size 3 1 s5 L.length (mapI L)∧Below w.heap.size w wr)
 case atStart=>exact ⟨i,[],by omega,by omega,by omega,rfl,rfl,World.ownsRow_nil _ _ _ _,Below.refl _ _⟩
 case round =>
  obtain ⟨k,L,hk1,hk2,rfl,rfl,hf,hown,hBw⟩:=hrel
  have HF:Hid (L ++ pathOf M k=pathOf M i):=hf
  have HW:Hid (Below w.heap.size w wr):=hBw
  clear hf
  by_cases h0:0≤k
  ·obtain ⟨m,rfl⟩:∃ m:Nat,k=m:=⟨k.toNat,by omega⟩
   have hmn:m<n:=by omega
   have HC:Hid (pathOf M m=(m:Int) :: pathOf M (M m).parent):=pathOf_cons HT.out hmn
   have hlen:L.length+1≤12:=by
    have h1:=HL.out
    rw [←HF.out,HC.out,List.length_append,List.length_cons] at h1
    omega
   have hsz:=hBw.size
   have hp:=HT.out m hmn
   clear hBw
   go_wp2_with (at_builtin;refine wpList_append_own _ rfl _ _ 38 rfl w.heap.size 3 i0 (.int .i64 0) 1 8 Tryz.underlying38 hi0 hz0 hz1 hz2 rfl (by decide) _ _ _ rfl (hown.alloc _) ⟨wr.heap.size,0,none⟩ 1 1 [.int .i64 m] rfl rfl one_cell one_one (by unfold maxLen;omega) (by omega) (by simp;omega) ?_)
   intro v' w1 hown' hgrow _
   have HB1:Hid (Below w.heap.size w w1):=grown_own HW.out hown hgrow
   have HO1:Hid (w1.ownsRow w.heap.size 3 1 v' (L ++ [(m:Int)]).length (mapI (L ++ [(m:Int)]))):=by
    show World.ownsRow ..
    rw [mapI_snoc,List.length_append];exact hown'
   obtain ⟨-,h1,-,-⟩:=(HM.out.later HB1.out).2 m hmn
   clear hown' hgrow hown
   go_wp2_with fail
   go_roundg ((M m).parent+1).toNat
   case measure=>omega
   case rel=>exact ⟨(M m).parent,L ++ [(m:Int)],by omega,by omega,rfl,rfl,by rw [←HF.out,HC.out];simp,HO1.out,HB1.out⟩
  ·have hk:k<0:=by omega
   go_wp2_with fail
   go_ret
   have hL:L=pathOf M i:=by rw [←HF.out,pathOf_neg hk];simp
   rw [←hL]
   obtain ⟨A,c,h1,h2⟩:=ints_of hown
   exact ⟨⟨A,c,by rw [←h1];rfl,h2⟩,HW.out⟩
end Go.Proofs.YtfgegmpoejilnaaGreatDoor
namespace Go.Proofs.YtfgegmpoejilnaaGreatDoor
theorem stepTo_prod (D:Nat→Dm) (dim:Nat):∀ t,prodN D (dim+1)*stepTo D dim t=prodN D (dim+1+t)
 | 0=>by simp [stepTo]
 | t+1=>by rw [stepTo,←Nat.mul_assoc,stepTo_prod D dim t];rfl
theorem stepTo_le {D:Nat→Dm} {n dim:Nat} (h:∀ j,j<n→1≤(D j).n) {t:Nat} (ht:dim+1+t≤n):stepTo D dim t≤prodN D (dim+1+t):=by
 rw [←stepTo_prod]
 exact Nat.le_mul_of_pos_left _ (prodN_pos fun j hj=>h j (by omega))
def passTo (D:Nat→Dm) (n dim m:Nat) (L:List (Int×Int)):Nat→List (Int×Int)
 | 0=>L
 | x+1=>if x / stepD D n dim % (D dim).n=m then (passTo D n dim m L x).set x (partsV (D dim).mem (atP D n dim m x (passTo D n dim m L x)) (partsOf (D dim).mem (D dim).n m)) else passTo D n dim m L x
def mbrV (D:Nat→Dm) (n dim m:Nat) (L:List (Int×Int)):List (Int×Int):=if partsOf (D dim).mem (D dim).n (m:Int)=[] then L else passTo D n dim m L L.length
def onceTo (D:Nat→Dm) (n dim:Nat) (L:List (Int×Int)):Nat→List (Int×Int)
 | 0=>L
 | r+1=>mbrV D n dim ((D dim).n-1-r) (onceTo D n dim L r)
def onceV (D:Nat→Dm) (n dim:Nat) (L:List (Int×Int)):List (Int×Int):=onceTo D n dim L (D dim).n
theorem pass_len (D:Nat→Dm) (n dim m:Nat) (L:List (Int×Int)):∀ x,(passTo D n dim m L x).length=L.length
 | 0=>rfl
 | x+1=>by
  rw [passTo]
  split
  ·rw [List.length_set,pass_len D n dim m L x]
  ·exact pass_len D n dim m L x
theorem mbr_len (D:Nat→Dm) (n dim m:Nat) (L:List (Int×Int)):(mbrV D n dim m L).length=L.length:=by
 unfold mbrV
 split
 ·rfl
 ·exact pass_len ..
theorem once_len (D:Nat→Dm) (n dim:Nat) (L:List (Int×Int)):∀ r,(onceTo D n dim L r).length=L.length
 | 0=>rfl
 | r+1=>by rw [onceTo,mbr_len,once_len D n dim L r]
def goodL (L:List (Int×Int)):Prop := ∀ c∈L,goodC c
theorem goodL_set {L:List (Int×Int)} (h:goodL L) (x:Nat) {c:Int×Int} (hc:goodC c):goodL (L.set x c):=fun y hy=>by
 rcases List.mem_or_eq_of_mem_set hy with h1 | h1
 ·exact h y h1
 ·rw [h1];exact hc
theorem good_at {L:List (Int×Int)} (h:goodL L) (x:Int):goodC (cAt L x):=by
 unfold cAt
 rw [List.getD_eq_getElem?_getD]
 cases he:L[x.toNat]? with
 | none=>exact good_zero
 | some c=>exact h c (List.mem_of_getElem? he)
theorem pass_good {D:Nat→Dm} {n dim m:Nat} {L:List (Int×Int)} (h:goodL L):∀ x,goodL (passTo D n dim m L x)
 | 0=>h
 | x+1=>by
  rw [passTo]
  split
  ·exact goodL_set (pass_good h x) _ (good_parts ..)
  ·exact pass_good h x
theorem mbr_good {D:Nat→Dm} {n dim m:Nat} {L:List (Int×Int)} (h:goodL L):goodL (mbrV D n dim m L):=by
 unfold mbrV
 split
 ·exact h
 ·exact pass_good h _
theorem once_good {D:Nat→Dm} {n dim:Nat} {L:List (Int×Int)} (h:goodL L):∀ r,goodL (onceTo D n dim L r)
 | 0=>h
 | r+1=>mbr_good (once_good h r)
end Go.Proofs.YtfgegmpoejilnaaGreatDoor
namespace Go.Proofs.YtfgegmpoejilnaaGreatDoor
open Go.ChangeShapes Go.WideShapes Go.ChangeAt Go.RowKit
set_option maxRecDepth 20000
set_option maxHeartbeats 2000000 in
theorem places_any (fn q r:Nat) (he:EntersO fn) (A:Option Addr) (n cap:Nat) (p:Nat→Bool) (w:World) (hn:n≤12) (hp:AskP fn q r w n p):Calls Tryz.prog 132 #[.slice A n cap,.func (.func fn) #[] #[.pointer (some ⟨q,0,none⟩),.pointer (some ⟨r,0,none⟩)]] w fun e w'=>(∃ A c,e=.returned (.slice A (selTo p n).length c)∧IntsAt w' A c (selTo p n))∧Below w.heap.size w w':=by
 obtain ⟨i0,hi0,hz0,hz1,hz2⟩:=info_parts Tryz.infoInt
 have HP:Hid (AskP fn q r w n p):=hp
 have hn':(n:Int)≤12:=by omega
 clear hp
 unfold EntersO at he
 go_enter Tryz.func132,Tryz.ntmps132
 go_wp2_with fail
 go_loopg [5,9] n (fun g s5 s9 wr => ∃ (k:Nat),k≤n∧g=n-k∧s9=.int .i64 k∧wr.ownsRow w.heap.size 3 1 s5 (selTo p k).length (mapI (selTo p k))∧Below w.heap.size w wr)
 case atStart=>exact ⟨0,Nat.zero_le _,rfl,rfl,World.ownsRow_nil _ _ _ _,Below.refl _ _⟩
 case round =>
  obtain ⟨k,hk,rfl,rfl,hown,hBw⟩:=hrel
  have HW:Hid (Below w.heap.size w wr):=hBw
  have HO:Hid (wr.ownsRow w.heap.size 3 1 _ (selTo p k).length (mapI (selTo p k))):=hown
  by_cases hlt:k<n
  ·have hki:(k:Int)<(n:Int):=by omega
   have hbd:=HP.out k wr hlt hBw
   clear hBw hown
   cases hb:p k
   ·rw [hb] at hbd
    have HK:Hid (p k=false):=hb
    clear hb
    go_wp2_with fail
    refine hbd.mono ?_
    rintro e w1 ⟨rfl,hb1⟩
    go_wp2_with fail
    go_roundg (n-(k+1))
    case measure=>omega
    case rel=>exact ⟨k+1,by omega,rfl,by go_num,by rw [selTo_miss HK.out];exact own_later HO.out hb1,onB HW.out hb1⟩
   ·rw [hb] at hbd
    have HK:Hid (p k=true):=hb
    have hlen:=selTo_len p k
    clear hb
    go_wp2_with fail
    refine hbd.mono ?_
    rintro e w1 ⟨rfl,hb1⟩
    have hown:=own_later HO.out hb1
    have hB1:=onB HW.out hb1
    have hsz:=hB1.size
    have HB1:Hid (Below w.heap.size w w1):=hB1
    clear hb1 hB1
    go_wp2_with (at_builtin;refine wpList_append_own _ rfl _ _ 38 rfl w.heap.size 3 i0 (.int .i64 0) 1 8 Tryz.underlying38 hi0 hz0 hz1 hz2 rfl (by decide) _ _ _ rfl (hown.alloc _) ⟨w1.heap.size,0,none⟩ 1 1 [.int .i64 k] rfl rfl one_cell one_one (by unfold maxLen;omega) (by omega) (by simp;omega) ?_)
    intro v' w2 hown' hgrow _
    have HB2:Hid (Below w.heap.size w w2):=grown_own HB1.out hown hgrow
    have HO2:Hid (w2.ownsRow w.heap.size 3 1 v' (selTo p (k+1)).length (mapI (selTo p (k+1)))):=by
     show World.ownsRow ..
     rw [selTo_hit HK.out,mapI_snoc,List.length_append];exact hown'
    clear hown' hgrow hown
    go_wp2_with fail
    go_roundg (n-(k+1))
    case measure=>omega
    case rel=>exact ⟨k+1,by omega,rfl,by go_num,HO2.out,HB2.out⟩
  ·have hke:k=n:=by omega
   subst hke
   clear hBw hown
   go_wp2_with fail
   go_ret
   obtain ⟨A,c,h1,h2⟩:=ints_of HO.out
   exact ⟨⟨A,c,by rw [←h1];rfl,h2⟩,HW.out⟩
theorem drop_at {L:List Int} {k:Nat} (h:k<L.length):L.drop k=L.getD k 0 :: L.drop (k+1):=by
 rw [List.drop_eq_getElem_cons h];simp [List.getD,List.getElem?_eq_getElem h]
theorem getD_mem {L:List Int} {k:Nat} (h:k<L.length):L.getD k 0∈L:=by
 simp [List.getD,List.getElem?_eq_getElem h]
set_option maxHeartbeats 2000000 in
theorem weight_any (b o n cap j:Nat) (i:Int) (M:Nat→Mem) (w:World) (hn:n≤12) (hj:j<n) (ht:Tr M n) (hs:Sg M n) (hM:MemsAt w b o n M):Calls Tryz.prog 100 #[.slice (some ⟨b,o,none⟩) n cap,.int .i64 i,.int .i64 j] w fun e w'=>e=.returned (.int .i64 (weightOf M i j))∧Below w.heap.size w w':=by
 have hpl:=path_any b o n cap j M w hn hj ht hM
 have HM:Hid (MemsAt w b o n M):=hM
 have HS:Hid (Sg M n):=hs
 have hln:(pathOf M j).length≤12:=by have:=pathOf_len ht n j (by omega) (by omega);omega
 have HI:Hid (∀ x∈pathOf M j,0≤x∧x<n):=fun x hx=>by have:=pathOf_mem ht n j (by omega) (by omega) x hx;omega
 have HW:Hid (wgt M i (pathOf M j) 1=weightOf M i j):=rfl
 generalize pathOf M j=L at hpl hln HI HW
 clear hM ht hs
 go_enter Tryz.func100,Tryz.ntmps100
 go_wp2_with fail
 refine hpl.mono ?_
 rintro e w1 ⟨⟨A,c,rfl,hI⟩,hb1⟩
 have HB1:Hid (Below w.heap.size w w1):=hb1
 have hM1:=HM.out.later hb1
 have hbw:=hM1.1
 have HMs:Hid (MemsAt w1 b o n M):=hM1
 have HL:Hid (IntsAt w1 A c L):=hI
 clear hb1 hpl hM1 hI
 go_wp2_with fail
 go_loopg [7,14] L.length (fun g s7 s14 wr => ∃ (k:Nat) (a:Int),k≤L.length∧g=L.length-k∧s14=.int .i64 k∧s7=.int .i64 a∧(-1≤a∧a≤1)∧wgt M i (L.drop k) a=wgt M i L 1∧wr=w1)
 case atStart=>exact ⟨0,1,Nat.zero_le _,rfl,rfl,rfl,by omega,rfl,rfl⟩
 case round =>
  obtain ⟨k,a,hk,rfl,rfl,rfl,ha,hf,rfl⟩:=hrel
  have HF:Hid (wgt M i (L.drop k) a=wgt M i L 1):=hf
  clear hf
  by_cases hlt:k<L.length
  ·obtain ⟨hc,h0 | ⟨g,rfl,hg,hcell⟩⟩:=HL.out
   ·rw [h0] at hlt;cases hlt
   have hx:=HI.out _ (getD_mem hlt)
   have HD:Hid (L.drop k=L.getD k 0 :: L.drop (k+1)):=drop_at hlt
   have hcx:=hcell k hlt
   generalize L.getD k 0=x at hx HD hcx
   obtain ⟨m,rfl⟩:∃ m:Nat,x=m:=⟨x.toNat,by omega⟩
   have hmn:m<n:=by omega
   have hki:(k:Int)<(L.length:Int):=by omega
   have hln':(L.length:Int)≤12:=by omega
   have hn':(n:Int)≤12:=by omega
   have hmi:(m:Int)<(n:Int):=by omega
   clear hcell hx
   by_cases hq:(m:Int)=i
   ·subst hq
    have HR:Hid (a=weightOf M m j):=by show _=_;rw [←HW.out,←HF.out,HD.out,wgt_hit]
    go_wp2_with fail
    go_ret
    exact ⟨by rw [←HR.out];rfl,HB1.out⟩
   ·have hq':((m:Int) == i)=false:=by simpa using hq
    obtain ⟨-,-,h2,-⟩:=HMs.out.2 m hmn
    have hsm:=HS.out m hmn
    have hmul:=small_mul ha hsm
    have HR:Hid (wgt M i (L.drop (k+1)) (a*(M m).sign)=wgt M i L 1):=by show _=_;rw [←HF.out,HD.out,wgt_miss hq];rfl
    have HMul:Hid (-1≤a*(M m).sign∧a*(M m).sign≤1):=hmul
    clear hq
    go_wp2_with fail
    go_roundg (L.length-(k+1))
    case measure=>omega
    case rel=>exact ⟨k+1,a*(M m).sign,by omega,rfl,by go_num,by go_num,HMul.out,HR.out,rfl⟩
  ·have hke:k=L.length:=by omega
   have HR:Hid (0=weightOf M i j):=by show _=_;rw [←HW.out,←HF.out,hke,List.drop_length];rfl
   subst hke
   go_wp2_with fail
   go_ret
   exact ⟨by rw [←HR.out];rfl,HB1.out⟩
theorem ints_new {w:World} {base e:Nat} {v:Value} {L:List Int} (h:w.ownsRow base e 1 v L.length (mapI L)):∃ A cap,v=.slice A L.length cap∧IntsAt w A cap L∧∀ b o,A=some ⟨b,o,none⟩→base≤b:=by
 obtain ⟨A,cap,h1,h2⟩:=ints_of h
 refine ⟨A,cap,h1,h2,fun b o e=>?_⟩
 subst h1
 exact (h.lt b (by simp [Value.ownBlock,e])).1
set_option maxHeartbeats 2000000 in
theorem places_new (fn q r:Nat) (he:EntersO fn) (A:Option Addr) (n cap:Nat) (p:Nat→Bool) (w:World) (hn:n≤12) (hp:AskP fn q r w n p):Calls Tryz.prog 132 #[.slice A n cap,.func (.func fn) #[] #[.pointer (some ⟨q,0,none⟩),.pointer (some ⟨r,0,none⟩)]] w fun e w'=>(∃ A c,e=.returned (.slice A (selTo p n).length c)∧IntsAt w' A c (selTo p n)∧∀ b o,A=some ⟨b,o,none⟩→w.heap.size≤b)∧Below w.heap.size w w':=by
 obtain ⟨i0,hi0,hz0,hz1,hz2⟩:=info_parts Tryz.infoInt
 have HP:Hid (AskP fn q r w n p):=hp
 have hn':(n:Int)≤12:=by omega
 clear hp
 unfold EntersO at he
 go_enter Tryz.func132,Tryz.ntmps132
 go_wp2_with fail
 go_loopg [5,9] n (fun g s5 s9 wr => ∃ (k:Nat),k≤n∧g=n-k∧s9=.int .i64 k∧wr.ownsRow w.heap.size 3 1 s5 (selTo p k).length (mapI (selTo p k))∧Below w.heap.size w wr)
 case atStart=>exact ⟨0,Nat.zero_le _,rfl,rfl,World.ownsRow_nil _ _ _ _,Below.refl _ _⟩
 case round =>
  obtain ⟨k,hk,rfl,rfl,hown,hBw⟩:=hrel
  have HW:Hid (Below w.heap.size w wr):=hBw
  have HO:Hid (wr.ownsRow w.heap.size 3 1 _ (selTo p k).length (mapI (selTo p k))):=hown
  by_cases hlt:k<n
  ·have hki:(k:Int)<(n:Int):=by omega
   have hbd:=HP.out k wr hlt hBw
   clear hBw hown
   cases hb:p k
   ·rw [hb] at hbd
    have HK:Hid (p k=false):=hb
    clear hb
    go_wp2_with fail
    refine hbd.mono ?_
    rintro e w1 ⟨rfl,hb1⟩
    go_wp2_with fail
    go_roundg (n-(k+1))
    case measure=>omega
    case rel=>exact ⟨k+1,by omega,rfl,by go_num,by rw [selTo_miss HK.out];exact own_later HO.out hb1,onB HW.out hb1⟩
   ·rw [hb] at hbd
    have HK:Hid (p k=true):=hb
    have hlen:=selTo_len p k
    clear hb
    go_wp2_with fail
    refine hbd.mono ?_
    rintro e w1 ⟨rfl,hb1⟩
    have hown:=own_later HO.out hb1
    have hB1:=onB HW.out hb1
    have hsz:=hB1.size
    have HB1:Hid (Below w.heap.size w w1):=hB1
    clear hb1 hB1
    go_wp2_with (at_builtin;refine wpList_append_own _ rfl _ _ 38 rfl w.heap.size 3 i0 (.int .i64 0) 1 8 Tryz.underlying38 hi0 hz0 hz1 hz2 rfl (by decide) _ _ _ rfl (hown.alloc _) ⟨w1.heap.size,0,none⟩ 1 1 [.int .i64 k] rfl rfl one_cell one_one (by unfold maxLen;omega) (by omega) (by simp;omega) ?_)
    intro v' w2 hown' hgrow _
    have HB2:Hid (Below w.heap.size w w2):=grown_own HB1.out hown hgrow
    have HO2:Hid (w2.ownsRow w.heap.size 3 1 v' (selTo p (k+1)).length (mapI (selTo p (k+1)))):=by
     show World.ownsRow ..
     rw [selTo_hit HK.out,mapI_snoc,List.length_append];exact hown'
    clear hown' hgrow hown
    go_wp2_with fail
    go_roundg (n-(k+1))
    case measure=>omega
    case rel=>exact ⟨k+1,by omega,rfl,by go_num,HO2.out,HB2.out⟩
  ·have hke:k=n:=by omega
   subst hke
   clear hBw hown
   go_wp2_with fail
   go_ret
   obtain ⟨A,c,h1,h2,h3⟩:=ints_new HO.out
   exact ⟨⟨A,c,by rw [←h1];rfl,h2,h3⟩,HW.out⟩
set_option maxHeartbeats 2000000 in
theorem parts_new (d:Dm) (A:Option Addr) (cap:Nat) (i:Int) (w:World) (hM:MemsV w A cap d.n d.mem):Calls Tryz.prog 105 #[dimV d A cap,.int .i64 i] w fun e w'=>(∃ A' c',e=.returned (.tuple #[.slice A' (lst (treeErr d [i]) (partsOf d.mem d.n i)).length c',errV (treeErr d [i])])∧IntsAt w' A' c' (lst (treeErr d [i]) (partsOf d.mem d.n i))∧∀ b o,A'=some ⟨b,o,none⟩→w.heap.size≤b)∧Below w.heap.size w w':=by
 have hB0:=ownQ_below w d A cap i 30 3
 have hck:=tcheck_any d A cap _ 1 [i] (ownQ w d A cap i 30 3) (hM.later hB0) (by simp) (ownQ_ints ..)
 have HB0:Hid (Below w.heap.size w (ownQ w d A cap i 30 3)):=hB0
 have HM:Hid (MemsV w A cap d.n d.mem):=hM
 unfold dimV at hck ⊢
 simp only [List.length_singleton] at hck
 clear hM hB0
 by_cases he:treeErr d [i]=0
 ·obtain ⟨hd,k,rfl,hk⟩:=treeErr_in he
  rw [he,errV_zero] at hck
  obtain ⟨-,-,hd2,-⟩:=dimErr_right hd
  have HR:Hid (lst (treeErr d [(k:Int)]) (partsOf d.mem d.n k)=selTo (partB d.mem k) d.n):=lst_ok he _
  have HE:Hid (errV (treeErr d [(k:Int)])=.nilIface):=by show _=_;rw [he];rfl
  clear he hd
  go_enter Tryz.func105,Tryz.ntmps105
  go_wp2_with fail
  refine hck.mono ?_
  rintro e w1 ⟨rfl,hb1⟩
  have hB:Below w.heap.size w w1:=onB HB0.out hb1
  have hz:w.heap.size+1<w1.heap.size:=by have:=hb1.size;rw [ownQ_size] at this;omega
  have h2:w1.cell? ⟨w.heap.size,2,none⟩=some (.slice A d.n cap):=(hb1.cell (p:=⟨w.heap.size,2,none⟩) (by show w.heap.size<_;rw [ownQ_size];omega)).trans (ownQ_dim ..)
  have h3:w1.cell? ⟨w.heap.size+1,0,none⟩=some (.int .i64 k):=(hb1.cell (p:=⟨w.heap.size+1,0,none⟩) (by show w.heap.size+1<_;rw [ownQ_size];omega)).trans (ownQ_int ..)
  obtain ⟨hcap,h0 | ⟨b,o,rfl,hMs⟩⟩:=HM.out.later hB
  ·omega
  have hpl:=places_new 140 w.heap.size (w.heap.size+1) parts1_in (some ⟨b,o,none⟩) d.n cap (partB d.mem k) w1 hd2 (fun j w' hj hw'=>parts1_any b o d.n cap j w.heap.size (w.heap.size+1) d.mem k w' hj hd2 (hMs.later hw') ((hw'.cell (p:=⟨w.heap.size,2,none⟩) (by show w.heap.size<_;omega)).trans h2) ((hw'.cell (p:=⟨w.heap.size+1,0,none⟩) hz).trans h3))
  have HB:Hid (Below w.heap.size w w1):=hB
  clear hb1 hck hMs h3 hB
  go_wp2_with fail
  refine hpl.mono ?_
  rintro e w2 ⟨⟨A',c',rfl,hI,hN⟩,hb2⟩
  have HNw:Hid (∀ b o,A'=some ⟨b,o,none⟩→w.heap.size≤b):=fun b o e=>Nat.le_trans HB.out.size (hN b o e)
  clear hN
  go_wp2_with fail
  go_ret2
  rw [HR.out,HE.out]
  exact ⟨⟨A',c',rfl,hI,HNw.out⟩,onB HB.out hb2⟩
 ·have HR:Hid (lst (treeErr d [i]) (partsOf d.mem d.n i)=[]):=lst_bad he _
  have HE:Hid (errV (treeErr d [i])=.iface 95 (.int .i64 (treeErr d [i]))):=errV_some he
  rw [errV_some he] at hck
  clear he
  generalize treeErr d [i]=c at hck HR HE
  go_enter Tryz.func105,Tryz.ntmps105
  go_wp2_with fail
  refine hck.mono ?_
  rintro e w1 ⟨rfl,hb1⟩
  go_wp2_with fail
  go_ret2
  rw [HR.out,HE.out]
  exact ⟨⟨none,0,rfl,IntsAt.nil _ _ _,fun b o e=>by cases e⟩,onB HB0.out hb1⟩
end Go.Proofs.YtfgegmpoejilnaaGreatDoor
namespace Go.Proofs.YtfgegmpoejilnaaGreatDoor
open Go Go.ChangeShapes Go.WideShapes Go.ChangeAt Go.RowKit Go.Deep
set_option maxRecDepth 100000
theorem open_place {H:Type} {enc:TypeId×Value→H} {w:World} {held:Bool} {r:Reach} {b0:Nat} {v:Value} {d:DataW H} {p:List MemPlace} (hv:Value.okWide Tryz.prog w r b0 39 v) (h:DataW.Trod enc Tryz.prog w 0 (fun _=>true) held 39 v d p) :
  ∃ (Ap:Option Addr) (cp:Nat) (L:List Int),v=.slice Ap L.length cp∧PlAt w Ap cp L:=by
 obtain ⟨a,len,cap,rfl⟩:=okWide_slice Tryz.underlying39 hv
 obtain ⟨fuel,hf⟩:=h
 have hf':DataW.trod enc Tryz.prog w 0 (fun _=>true) held fuel 39 [.slice a len cap]=some (d,p):=hf
 rcases open_ints Tryz.underlying39 Tryz.underlying3 (by kernel_rfl) hf' with ⟨e,_⟩ | ⟨a',len',cap',zs,e,_,hl,_,hzl,_,hc,_⟩
 ·simp at e
  obtain ⟨rfl,rfl,rfl⟩:=e
  exact ⟨none,0,[],rfl,PlAt.nil _ _ _⟩
 ·simp at e hzl
  obtain ⟨rfl,rfl,rfl⟩:=e
  have hlen:(zs.take len).length=len:=by simp;omega
  refine ⟨some a',cap,zs.take len,by rw [hlen],by rw [hlen];exact hl,?_⟩
  rcases Nat.eq_zero_or_pos len with h0 | h0
  ·left
   subst h0
   simp
  right
  have c0:=hc 0 (by omega)
  have hp:=addr_plain c0 rfl
  have hb:=World.block_lt_of_cell? _ _ c0
  refine ⟨a'.block,a'.off,by rw [←hp],by simpa [Addr.add] using hb,fun j hj=>?_⟩
  rw [hlen] at hj
  have:=hc j (by omega)
  rw [hp,plain_add] at this
  rw [this]
  simp [List.getD,hj]
section
variable {H:Type} {enc:TypeId×Value→H} {w:World} {held:Bool}
theorem cellsEn:Tryz.prog.cellsOf 63=2:=by kernel_rfl
theorem open_pl {fuel:Nat} {cs:List Value} {x:DataW H×List MemPlace} (h:DataW.trod enc Tryz.prog w 0 (fun _=>true) held fuel 39 cs=some x) :
  ∃ (Ap:Option Addr) (cp:Nat) (L:List Int),cs=[.slice Ap L.length cp]∧PlAt w Ap cp L:=by
 rcases open_ints Tryz.underlying39 Tryz.underlying3 (by kernel_rfl) h with ⟨rfl,_⟩ | ⟨a',len,cap,zs,rfl,_,hl,_,hzl,_,hc,_⟩
 ·exact ⟨none,0,[],rfl,PlAt.nil _ _ _⟩
 ·simp at hzl
  have hlen:(zs.take len).length=len:=by simp;omega
  refine ⟨some a',cap,zs.take len,by rw [hlen],by rw [hlen];exact hl,?_⟩
  rcases Nat.eq_zero_or_pos len with h0 | h0
  ·left
   subst h0
   simp
  right
  have c0:=hc 0 (by omega)
  have hp:=addr_plain c0 rfl
  have hb:=World.block_lt_of_cell? _ _ c0
  refine ⟨a'.block,a'.off,by rw [←hp],by simpa [Addr.add] using hb,fun j hj=>?_⟩
  rw [hlen] at hj
  have:=hc j (by omega)
  rw [hp,plain_add] at this
  rw [this]
  simp [List.getD,hj]
theorem open_en {fuel:Nat} {cs:List Value} {x:DataW H×List MemPlace} (h:DataW.trod enc Tryz.prog w 0 (fun _=>true) held fuel 63 cs=some x) :
  ∃ (e:En) (A:Option Addr) (c:Nat),cs=[.slice A e.pl.length c,.int .i64 e.n]∧PlAt w A c e.pl:=by
 obtain ⟨hl,n,hf⟩:=trod_one Tryz.underlying63 (by kernel_rfl) h
 rw [cellsEn] at hl
 match cs,hl with
 | [v0,v1],_ =>
  obtain ⟨y0,h0⟩:=hf 0 _ v0 rfl rfl
  obtain ⟨y1,h1⟩:=hf 1 _ v1 rfl rfl
  obtain ⟨A,c,L,e0,hP⟩:=open_pl h0
  obtain ⟨n1,e1,-,-⟩:=DataW.trod_int Tryz.underlying3 h1
  simp at e0 e1
  exact ⟨⟨L,n1⟩,A,c,by rw [e0,e1],hP⟩
theorem cells_of_each {b o:Nat} {xs:List EnL} (h:∀ i,i<xs.length→w.cell? ⟨b,o+i*2,none⟩=some (.slice (xs.getD i noL).A (xs.getD i noL).e.pl.length (xs.getD i noL).c)∧w.cell? ⟨b,o+i*2+1,none⟩=some (.int .i64 (xs.getD i noL).e.n)):∀ j u,(cellsE xs)[j]?=some u→w.cell? ⟨b,o+j,none⟩=some u:=by
 intro j u hj
 have hlt:j<(cellsE xs).length:=(List.getElem?_eq_some_iff.1 hj).1
 rw [cellsE_len] at hlt
 have hk:j / 2<xs.length:=by omega
 obtain ⟨h1,h2⟩:=cellsE_at xs _ hk
 obtain ⟨c1,c2⟩:=h _ hk
 rcases Nat.mod_two_eq_zero_or_one j with hm | hm
 ·have e:j=j / 2*2:=by omega
  rw [e] at hj ⊢
  rw [h1] at hj
  rw [c1]
  exact hj
 ·have e:j=j / 2*2+1:=by omega
  rw [e] at hj ⊢
  rw [h2] at hj
  rw [←Nat.add_assoc,c2]
  exact hj
theorem open_ens {r:Reach} {b0:Nat} {v:Value} {d:DataW H} {p:List MemPlace} (hv:Value.okWide Tryz.prog w r b0 46 v) (h:DataW.Trod enc Tryz.prog w 0 (fun _=>true) held 46 v d p) :
  ∃ (A:Option Addr) (cap:Nat) (xs:List EnL),v=.slice A xs.length cap∧EnsV w A cap xs:=by
 obtain ⟨a0,len0,cap0,rfl⟩:=okWide_slice Tryz.underlying46 hv
 obtain ⟨fuel,hf⟩:=h
 have hf':DataW.trod enc Tryz.prog w 0 (fun _=>true) held fuel 46 [.slice a0 len0 cap0]=some (d,p):=hf
 rcases open_slice Tryz.underlying46 hf' with ⟨e,-⟩ | ⟨a,len,cap,m,n,D,Pl,e,-,hl,hcm,hm,-,hx⟩
 ·simp at e
  obtain ⟨rfl,rfl,rfl⟩:=e
  exact ⟨none,0,[],rfl,Nat.le_refl _,Nat.zero_le _,Or.inl rfl⟩
 simp at e
 obtain ⟨rfl,rfl,rfl⟩:=e
 rw [cellsEn] at hx
 simp at hm
 subst hm
 haveI:Inhabited EnL:=⟨noL⟩
 have each:∀ i,i<len0→∃ y:EnL,w.cells? 0 (a.add (i*2)) 2=some [.slice y.A y.e.pl.length y.c,.int .i64 y.e.n]∧PlAt w y.A y.c y.e.pl:=fun i hi=>by
  obtain ⟨cs',h1,h2⟩:=hx i (by omega)
  obtain ⟨e,A,c,rfl,hp⟩:=open_en h2
  exact ⟨⟨e,A,c⟩,h1,hp⟩
 obtain ⟨Y,hY⟩:=choose_lt each
 have hlen:((List.range len0).map Y).length=len0:=by simp
 have hg:∀ i,i<len0→((List.range len0).map Y).getD i noL=Y i:=fun i hi=>by simp [List.getD,hi]
 refine ⟨some a,_,(List.range len0).map Y,by rw [hlen],by rw [hlen];exact hl,hcm,?_⟩
 rcases Nat.eq_zero_or_pos len0 with h0 | h0
 ·left;subst h0;rfl
 right
 have c0:=(World.cells?_some (hY 0 h0).1).2.2 0 (by omega)
 rw [add_add] at c0
 have hp:=addr_plain c0 (by omega)
 have hb:=World.block_lt_of_cell? _ _ c0
 refine ⟨a.block,a.off,by rw [←hp],by simpa [Addr.add] using hb,cells_of_each fun i hi=>?_,fun x hx=>?_⟩
 ·rw [hlen] at hi
  have hc:=(World.cells?_some (hY i hi).1).2.2
  rw [hp] at hc
  simp only [plain_add,Nat.add_assoc] at hc
  rw [hg i hi]
  refine ⟨?_,?_⟩
  ·have:=hc 0 (by omega);simpa using this
  ·have:=hc 1 (by omega);simpa [Nat.add_assoc] using this
 ·simp only [List.mem_map,List.mem_range] at hx
  obtain ⟨i,hi,rfl⟩:=hx
  exact (hY i hi).2
end
end Go.Proofs.YtfgegmpoejilnaaGreatDoor
namespace Go.Proofs.YtfgegmpoejilnaaGreatDoor
open Go.ChangeShapes Go.WideShapes Go.ChangeAt Go.RowKit
set_option maxRecDepth 20000
set_option maxHeartbeats 2000000 in
theorem step_any (b o cap n dim:Nat) (D:Nat→Dm) (A:Nat→Option Addr) (C:Nat→Nat) (w:World) (hdim:dim<n) (hn:n≤4) (hcap:n≤cap) (hd:∀ j,j<n→1≤(D j).n∧(D j).n≤12) (hM:DimsAt w b o n D A C) :
  Calls Tryz.prog 104 #[.agg #[.slice (some ⟨b,o,none⟩) n cap],.int .i64 dim] w fun e w'=>e=.returned (.int .i64 (stepD D n dim))∧Below w.heap.size w w':=by
 have HM:Hid (DimsAt w b o n D A C):=hM
 have HD:Hid (∀ j,j<n→1≤(D j).n∧(D j).n≤12):=hd
 have hn':(n:Int)≤4:=by omega
 have hdi:(dim:Int)+1≤(n:Int):=by omega
 obtain ⟨m,hm⟩:∃ m,n=dim+1+m:=⟨n-(dim+1),by omega⟩
 have HS:Hid (stepD D n dim=stepTo D dim m):=by show _=_;unfold stepD;rw [show n-1-dim=m by omega]
 have hB0:=ownOut_below w (some ⟨b,o,none⟩) n cap 24
 obtain ⟨W,hW⟩:∃ W,w.alloc (.cells #[.slice (some ⟨b,o,none⟩) n cap] 24)=W:=⟨_,rfl⟩
 have hWo:ownOut w (some ⟨b,o,none⟩) n cap 24=W:=hW
 rw [hWo] at hB0
 have HB0:Hid (Below w.heap.size w W):=hB0
 have HMW:Hid (DimsAt W b o n D A C):=hM.later hB0
 have cW:W.cell? ⟨w.heap.size,0,none⟩=some (.slice (some ⟨b,o,none⟩) n cap):=by rw [←hWo];exact ownOut_at ..
 have e1:n-(dim+1)=m:=by omega
 have e2:((dim:Int)+1).toNat=dim+1:=by omega
 have hm':(m:Int)≤4:=by omega
 have HE:Hid (n=dim+1+m):=hm
 clear hM hd hB0 hWo hm
 by_cases hc:cap=dim+1
 ·have hm0:m=0:=by have:=HE.out;omega
  subst hm0
  subst hc
  go_enter Tryz.func104,Tryz.ntmps104
  go_wp2_with fail
  clear hW
  refine wp_loop_rounds 1 ?_
  rw [rounds_succ]
  go_wp2_with fail
  go_ret
  exact ⟨by rw [HS.out];rfl,HB0.out⟩
 go_enter Tryz.func104,Tryz.ntmps104
 go_wp2_with fail
 clear hW
 go_loopg [5,14] m (fun g s5 s14 wr => ∃ (k:Nat),k≤m∧g=m-k∧s14=.int .i64 k∧s5=.int .i64 (stepTo D dim k)∧Below W.heap.size W wr)
 case atStart=>exact ⟨0,Nat.zero_le _,rfl,rfl,rfl,Below.refl _ _⟩
 case round =>
  obtain ⟨k,hk,rfl,rfl,rfl,hBw⟩:=hrel
  have HW:Hid (Below W.heap.size W wr):=hBw
  by_cases hlt:k<m
  ·obtain ⟨h0,h1,h3,-⟩:=(HMW.out.later hBw).2 (dim+1+k) (by have:=HE.out;omega)
   rw [show o+(dim+1+k)*3=o+(dim+1)*3+k*3 by omega] at h0 h1 h3
   have hki:(k:Int)<(m:Int):=by omega
   have hp1:stepTo D dim (k+1)≤20736:=Nat.le_trans (stepTo_le (n:=n) (fun j hj=>(HD.out j hj).1) (by have:=HE.out;omega)) (prod_small (fun j hj=>(HD.out j (by have:=HE.out;omega)).2) (by have:=HE.out;omega))
   have hp2:(stepTo D dim (k+1):Int)=(stepTo D dim k:Int)*((D (dim+1+k)).n:Int):=by rw [stepTo];exact Int.natCast_mul _ _
   have hp3:0≤(stepTo D dim k:Int)*((D (dim+1+k)).n:Int):=by omega
   have hp4:(stepTo D dim k:Int)*((D (dim+1+k)).n:Int)≤20736:=by omega
   have HP:Hid ((stepTo D dim (k+1):Int)=(stepTo D dim k:Int)*((D (dim+1+k)).n:Int)):=hp2
   clear hBw hp1 hp2
   go_wp2_with fail
   go_roundg (m-(k+1))
   case measure=>omega
   case rel=>exact ⟨k+1,by omega,rfl,by go_num,by rw [HP.out],onB HW.out (by go_grown)⟩
  ·have hke:k=m:=by omega
   subst hke
   go_wp2_with fail
   go_ret
   exact ⟨by rw [HS.out];rfl,onB HB0.out HW.out⟩
def chkErr (D:Nat→Dm) (n:Nat) (L:List (Int×Int)):Int:=if (allErr D n).2.2≠0 then (allErr D n).2.2 else if L.length≠prodN D n then 3 else if 0≤findFrom (goodB L) L.length 0 then 1 else 0
theorem ck0 {D:Nat→Dm} {n:Nat} {L:List (Int×Int)} (h:(allErr D n).2.2≠0):chkErr D n L=(allErr D n).2.2:=by unfold chkErr;rw [if_pos h]
theorem ck1 {D:Nat→Dm} {n:Nat} {L:List (Int×Int)} (h:(allErr D n).2.2=0) (h1:L.length≠prodN D n):chkErr D n L=3:=by unfold chkErr;rw [if_neg (by simpa using h),if_pos h1]
theorem ck2 {D:Nat→Dm} {n:Nat} {L:List (Int×Int)} (h:(allErr D n).2.2=0) (h1:L.length=prodN D n):chkErr D n L=if 0≤findFrom (goodB L) L.length 0 then 1 else 0:=by unfold chkErr;rw [if_neg (by simpa using h),if_neg (by simpa using h1)]
theorem find_none_all {p:Nat→Bool}:∀ m i,findFrom p m i<0→∀ j,i≤j→j<i+m→p j=false
 | 0,i,_,j,h1,h2=>by omega
 | m+1,i,h,j,h1,h2=>by
  cases hp:p i
  ·rw [findFrom_miss _ hp] at h
   by_cases e:j=i
   ·rw [e];exact hp
   ·exact find_none_all m (i+1) h j (by omega) (by omega)
  ·rw [findFrom_hit _ hp] at h;omega
theorem find_none_of {p:Nat→Bool}:∀ m i,(∀ j,i≤j→j<i+m→p j=false)→findFrom p m i<0
 | 0,i,_=>by simp [findFrom]
 | m+1,i,h=>by
  rw [findFrom_miss _ (h i (by omega) (by omega))]
  exact find_none_of m (i+1) fun j h1 h2=>h j (by omega) (by omega)
theorem chk_right {D:Nat→Dm} {n:Nat} {L:List (Int×Int)} (h:chkErr D n L=0):(allErr D n).2.2=0∧L.length=prodN D n∧goodL L:=by
 by_cases h1:(allErr D n).2.2=0
 ·by_cases h2:L.length=prodN D n
  ·refine ⟨h1,h2,fun c hc=>?_⟩
   rw [ck2 h1 h2] at h
   have h3:findFrom (goodB L) L.length 0<0:=by
    rcases Int.lt_or_le (findFrom (goodB L) L.length 0) 0 with h4 | h4
    ·exact h4
    ·rw [if_pos h4] at h;cases h
   obtain ⟨k,hk,rfl⟩:=List.getElem_of_mem hc
   have:=find_none_all _ _ h3 k (Nat.zero_le _) (by omega)
   unfold goodB at this
   rw [List.getD_eq_getElem?_getD,List.getElem?_eq_getElem hk] at this
   simpa [goodC] using this
  ·rw [ck1 h1 h2] at h;cases h
 ·rw [ck0 h1] at h;exact absurd h h1
theorem chk_ok {D:Nat→Dm} {n:Nat} {L:List (Int×Int)} (h1:(allErr D n).2.2=0) (h2:L.length=prodN D n) (h3:goodL L):chkErr D n L=0:=by
 rw [ck2 h1 h2,if_neg]
 have:=find_none_of (p:=goodB L) L.length 0 fun j _ hj=>by
  unfold goodB
  have hg:=good_at h3 (j:Int)
  unfold cAt goodC at hg
  rw [show ((j:Int)).toNat=j by omega] at hg
  unfold noC
  rw [hg]
  rfl
 omega
set_option maxHeartbeats 4000000 in
theorem fcheck_any (A0:Option Addr) (cap n:Nat) (D:Nat→Dm) (A:Nat→Option Addr) (C:Nat→Nat) (AC:Option Addr) (cc:Nat) (L:List (Int×Int)) (w:World) (hM:DimsV w A0 cap n D A C) (hL:CelV w AC cc L) :
  Calls Tryz.prog 71 #[.agg #[.slice A0 n cap],.slice AC L.length cc] w fun e w'=>e=.returned (errV (chkErr D n L))∧Below w.heap.size w w':=by
 have hB0:=ownOut_below w A0 n cap 24
 have h:=pcells_any A0 cap n D A C (ownOut w A0 n cap 24) (hM.later hB0)
 have HB0:Hid (Below w.heap.size w (ownOut w A0 n cap 24)):=hB0
 have HLv:Hid (CelV w AC cc L):=hL
 by_cases he:(allErr D n).2.2=0
 ·obtain ⟨hn1,hn4,hp3,hd⟩:=allErr_some he
  have hcv:cellsV D n=(prodN D n:Int):=by unfold cellsV;rw [if_pos he]
  rw [he,errV_zero,hcv] at h
  have HA:Hid ((allErr D n).2.2=0):=he
  have hl63:(L.length:Int)≤9223372036854775807:=by have:=hL.1;have:=hL.2.1;omega
  clear hcv hd he hM hB0 hL
  by_cases hl:L.length=prodN D n
  ·have HR:Hid (chkErr D n L=if 0≤findFrom (goodB L) L.length 0 then 1 else 0):=ck2 HA.out hl
   have HLN:Hid (L.length=prodN D n):=hl
   rw [←hl] at h hp3
   obtain ⟨N,hN⟩:∃ N,L.length=N:=⟨_,rfl⟩
   have HN:Hid (L.length=N):=hN
   rw [hN] at h hp3 HR hl63 ⊢
   have hne:((N:Int) != (N:Int))=false:=by simp
   have hN':(N:Int)≤3000:=by omega
   clear hl hN
   go_enter Tryz.func71,Tryz.ntmps71
   go_wp2_with fail
   refine h.mono ?_
   rintro e w1 ⟨rfl,hb1⟩
   have HB:Hid (Below w.heap.size w w1):=onB HB0.out hb1
   have HLw:Hid (CelV w1 AC cc L):=HLv.out.later HB.out
   clear hb1 h
   go_wp2_with fail
   go_loopg [25] N (fun g s25 wr => ∃ (k:Nat),k≤N∧g=N-k∧s25=.int .i64 k∧Hid (findFrom (goodB L) (N-k) k=findFrom (goodB L) N 0)∧Below w1.heap.size w1 wr)
   case atStart=>exact ⟨0,Nat.zero_le _,rfl,rfl,(rfl:findFrom (goodB L) (N-0) 0=findFrom (goodB L) N 0),Below.refl _ _⟩
   case round =>
    obtain ⟨k,hk,rfl,rfl,HF,hBw⟩:=hrel
    have HW:Hid (Below w1.heap.size w1 wr):=hBw
    by_cases hlt:k<N
    ·have hki:(k:Int)<(N:Int):=by omega
     have hkL:k<L.length:=by rw [HN.out];exact hlt
     obtain ⟨hcc,hc63,h0 | ⟨b,o,rfl,hA⟩⟩:=HLw.out.later hBw
     ·rw [h0] at hkL;simp at hkL
     rw [HN.out] at hcc
     obtain ⟨c1,c2⟩:=hA.2 k hkL
     have hgb:goodB L k = !(good (L.getD k noC).1 (L.getD k noC).2):=rfl
     have HSK:Hid (N-k=(N-(k+1))+1):=by show _=_;omega
     generalize (L.getD k noC).1=ck at c1 hgb
     generalize (L.getD k noC).2=cn at c2 hgb
     have HBa:Hid (Below wr.heap.size wr (wr.alloc (.cells #[.int .i64 ck,.int .i64 cn] 54))):=by show Below _ _ _;go_grown
     have hch:=check_any ck cn
     cases hg:good ck cn
     ·rw [hg] at hch hgb
      simp only [Bool.false_eq_true,if_false] at hch
      have HK:Hid (goodB L k=true):=hgb
      clear hA hBw hgb hg
      go_wp2_with fail
      refine (hch _).mono ?_
      rintro e w2 ⟨rfl,hb2⟩
      have HB2:Hid (Below wr.heap.size wr w2):=onB (by go_grown) hb2
      clear hb2
      go_wp2_with fail
      go_ret
      refine ⟨?_,onB HB.out (onB HW.out HB2.out)⟩
      rw [HR.out,←HF.out,HSK.out,findFrom_hit _ HK.out,if_pos (by omega)]
      rfl
     ·rw [hg] at hch hgb
      simp only [if_true] at hch
      have HK:Hid (goodB L k=false):=hgb
      clear hA hBw hgb hg
      go_wp2_with fail
      refine (hch _).mono ?_
      rintro e w2 ⟨rfl,hb2⟩
      have HB2:Hid (Below wr.heap.size wr w2):=onB (by go_grown) hb2
      clear hb2
      go_wp2_with fail
      go_roundg (N-(k+1))
      case measure=>omega
      case rel=>exact ⟨k+1,by omega,rfl,by go_num,(by rw [←HF.out,HSK.out,findFrom_miss _ HK.out]:findFrom (goodB L) (N-(k+1)) (k+1)=findFrom (goodB L) N 0),onB HW.out HB2.out⟩
    ·have hke:k=N:=by omega
     subst hke
     clear hBw
     go_wp2_with fail
     go_ret
     refine ⟨?_,onB HB.out HW.out⟩
     rw [HR.out,←HF.out,Nat.sub_self]
     rfl
  ·have HR:Hid (chkErr D n L=3):=ck1 HA.out hl
   have hne:((L.length:Int) != (prodN D n:Int))=true:=by simp;omega
   generalize L.length=N at hne hl63
   generalize prodN D n=pn at h hne hp3
   clear hl
   go_enter Tryz.func71,Tryz.ntmps71
   go_wp2_with fail
   refine h.mono ?_
   rintro e w1 ⟨rfl,hb1⟩
   have HB:Hid (Below w.heap.size w w1):=onB HB0.out hb1
   clear hb1 h
   go_wp2_with fail
   go_ret
   exact ⟨by rw [HR.out];rfl,HB.out⟩
 ·have HR:Hid (chkErr D n L=(allErr D n).2.2):=ck0 he
  have HE:Hid (errV (allErr D n).2.2=.iface 95 (.int .i64 (allErr D n).2.2)):=errV_some he
  rw [errV_some he] at h
  generalize L.length=N
  clear he hM hB0 hL
  generalize (allErr D n).2.2=c at h HE HR
  generalize cellsV D n=cv at h
  go_enter Tryz.func71,Tryz.ntmps71
  go_wp2_with fail
  refine h.mono ?_
  rintro e w1 ⟨rfl,hb1⟩
  have HB:Hid (Below w.heap.size w w1):=onB HB0.out hb1
  clear hb1 h
  go_wp2_with fail
  go_ret
  exact ⟨by rw [HR.out,HE.out];rfl,HB.out⟩
set_option maxHeartbeats 2000000 in
theorem fm1_any (q1 q2 q3 q4 g c:Nat) (L:List (Int×Int)) (x m s:Nat) (k:Int) (y:Nat) (w:World) (hLc:L.length≤c) (hc:c≤9223372036854775807) (hx:x<L.length) (hy:(x:Int)+(k-(m:Int))*(s:Int)=y) (hyL:y<L.length) (hk:0≤k∧k≤12) (hm:m≤12)
  (c1:w.cell? ⟨q1,0,none⟩=some (.slice (some ⟨g,0,none⟩) L.length c)) (c2:w.cell? ⟨q2,0,none⟩=some (.int .i64 x)) (c3:w.cell? ⟨q3,0,none⟩=some (.int .i64 m)) (c4:w.cell? ⟨q4,0,none⟩=some (.int .i64 s)) (hB:CelB w g L) :
  Calls Tryz.prog 107 #[.int .i64 k,.pointer (some ⟨q1,0,none⟩),.pointer (some ⟨q2,0,none⟩),.pointer (some ⟨q3,0,none⟩),.pointer (some ⟨q4,0,none⟩)] w fun e w'=>e=.returned (.agg #[.int .i64 (L.getD y noC).1,.int .i64 (L.getD y noC).2])∧Below w.heap.size w w':=by
 have hmul1:(k-(m:Int))*(s:Int)=(y:Int)-(x:Int):=by omega
 have hw1:IntKind.i64.wrap (k-(m:Int))=k-(m:Int):=IntWalk.i64_in _ (by omega)
 have hw2:IntKind.i64.wrap ((k-(m:Int))*(s:Int))=(y:Int)-(x:Int):=by rw [hmul1];exact IntWalk.i64_in _ (by omega)
 have hw3:IntKind.i64.wrap ((x:Int)+((y:Int)-(x:Int)))=y:=by rw [show (x:Int)+((y:Int)-(x:Int))=y by omega];exact IntWalk.i64_in _ (by omega)
 obtain ⟨y1,y2⟩:=hB.at hyL
 have hgl:=hB.lt
 have z1:=World.block_lt_of_cell? _ _ c1
 have z2:=World.block_lt_of_cell? _ _ c2
 have z3:=World.block_lt_of_cell? _ _ c3
 have z4:=World.block_lt_of_cell? _ _ c4
 have d1:(w.alloc (.cells #[.int .i64 0,.int .i64 0] 54)).cell? ⟨q1,0,none⟩=some (.slice (some ⟨g,0,none⟩) L.length c):=by rw [World.cell?_alloc_lt _ _ ⟨q1,0,none⟩ z1];exact c1
 have hyl:(y:Int)<(L.length:Int):=by omega
 generalize (L.getD y noC).1=a at y1
 generalize (L.getD y noC).2=b at y2
 generalize L.length=N at c1 d1 hLc hyl
 clear hB hx hyL hy hmul1
 go_enter Tryz.func107,Tryz.ntmps107
 go_wp2_with fail
 refine bodyPost_ret (v:=.agg #[.int .i64 a,.int .i64 b]) (by simp [results,Tryz.results107,go_sem]) rfl ⟨rfl,by go_grown⟩
def AskC (q1 q2 q3 q4:Nat) (w:World) (P:List Int) (at':Int→Int×Int):Prop := ∀ k,k∈P→∀ (w':World),Below w.heap.size w w'→Calls Tryz.prog 107 #[.int .i64 k,.pointer (some ⟨q1,0,none⟩),.pointer (some ⟨q2,0,none⟩),.pointer (some ⟨q3,0,none⟩),.pointer (some ⟨q4,0,none⟩)] w' fun e w''=>e=.returned (.agg #[.int .i64 (at' k).1,.int .i64 (at' k).2])∧Below w'.heap.size w' w''
def togW (w:World) (d:Dm) (A:Option Addr) (c:Nat):World:=((ownDim w d A c 30).alloc (.cells #[.int .i64 0,.int .i64 0] 54)).alloc (.cells #[.int .i64 0,.int .i64 0] 54)
theorem togW_size (w:World) (d:Dm) (A:Option Addr) (c:Nat):(togW w d A c).heap.size=w.heap.size+3:=by unfold togW;simp [ownDim_size]
theorem togW_below (w:World) (d:Dm) (A:Option Addr) (c:Nat):Below w.heap.size w (togW w d A c):=by unfold togW ownDim;go_grown
theorem togW_d (w:World) (d:Dm) (A:Option Addr) (c:Nat):(togW w d A c).cell? ⟨w.heap.size,2,none⟩=some (.slice A d.n c):=by
 unfold togW
 rw [World.cell?_alloc_lt _ _ ⟨w.heap.size,2,none⟩ (by simp [ownDim_size] <;> omega),World.cell?_alloc_lt _ _ ⟨w.heap.size,2,none⟩ (by simp [ownDim_size])]
 exact (ownDim_at ..).2.2
theorem togW_1 (w:World) (d:Dm) (A:Option Addr) (c:Nat):(togW w d A c).heap[w.heap.size+1]?=some (.cells #[.int .i64 0,.int .i64 0] 54):=by
 unfold togW
 rw [Below.heap_alloc _ _ _ (by simp [ownDim_size])]
 have h:=heap_alloc_new (ownDim w d A c 30) (.cells #[.int .i64 0,.int .i64 0] 54)
 rw [ownDim_size] at h
 exact h
theorem togW_2 (w:World) (d:Dm) (A:Option Addr) (c:Nat):(togW w d A c).heap[w.heap.size+2]?=some (.cells #[.int .i64 0,.int .i64 0] 54):=by
 have h:=heap_alloc_new ((ownDim w d A c 30).alloc (.cells #[.int .i64 0,.int .i64 0] 54)) (.cells #[.int .i64 0,.int .i64 0] 54)
 rw [show ((ownDim w d A c 30).alloc (.cells #[.int .i64 0,.int .i64 0] 54)).heap.size=w.heap.size+2 by simp [ownDim_size]] at h
 exact h
set_option maxHeartbeats 8000000 in
theorem tog_any (q1 q2 q3 q4 bm om c:Nat) (d:Dm) (AP:Option Addr) (cP:Nat) (P:List Int) (at':Int→Int×Int) (w:World) (hd12:d.n≤12) (hP12:P.length≤12) (hIn:∀ k∈P,∃ j:Nat,k=j∧j<d.n) (hSg:Sg d.mem d.n) (hG:∀ k∈P,goodC (at' k)) (hMm:MemsAt w bm om d.n d.mem) (hP:IntsAt w AP cP P) (hA:AskC q1 q2 q3 q4 w P at') :
  Calls Tryz.prog 106 #[dimV d (some ⟨bm,om,none⟩) c,.slice AP P.length cP,.func (.func 107) #[] #[.pointer (some ⟨q1,0,none⟩),.pointer (some ⟨q2,0,none⟩),.pointer (some ⟨q3,0,none⟩),.pointer (some ⟨q4,0,none⟩)]] w fun e w'=>e=.returned (.tuple #[.agg #[.int .i64 (partsV d.mem at' P).1,.int .i64 (partsV d.mem at' P).2],.nilIface])∧Below w.heap.size w w':=by
 have HIn:Hid (∀ k∈P,∃ j:Nat,k=j∧j<d.n):=hIn
 have HSg:Hid (Sg d.mem d.n):=hSg
 have HG:Hid (∀ k∈P,goodC (at' k)):=hG
 have HMm:Hid (MemsAt w bm om d.n d.mem):=hMm
 have HP:Hid (IntsAt w AP cP P):=hP
 have HA:Hid (AskC q1 q2 q3 q4 w P at'):=hA
 have HB0:Hid (Below w.heap.size w (togW w d (some ⟨bm,om,none⟩) c)):=togW_below ..
 have HW0:Hid ((togW w d (some ⟨bm,om,none⟩) c).cell? ⟨w.heap.size,2,none⟩=some (.slice (some ⟨bm,om,none⟩) d.n c)∧(togW w d (some ⟨bm,om,none⟩) c).heap[w.heap.size+1]?=some (.cells #[.int .i64 0,.int .i64 0] 54)∧(togW w d (some ⟨bm,om,none⟩) c).heap.size=w.heap.size+3):=⟨togW_d ..,togW_1 ..,togW_size ..⟩
 have HFin:Hid ((P.take P.length).foldl (partStep d.mem at') (0,0)=partsV d.mem at' P):=by show _=_;rw [List.take_length];rfl
 obtain ⟨N,hN⟩:∃ N,P.length=N:=⟨_,rfl⟩
 have HN:Hid (P.length=N):=hN
 rw [hN] at HFin hP12 ⊢
 generalize partsV d.mem at' P=V at HFin
 have hN':(N:Int)≤12:=by omega
 have hd12':(d.n:Int)≤12:=by omega
 unfold dimV
 clear hIn hSg hG hMm hP hA hN
 go_enter Tryz.func106,Tryz.ntmps106
 go_wp2_with fail
 go_loopg [9,15] N (fun g s9 s15 wr => ∃ (k:Nat) (a b:Int),k≤N∧g=N-k∧s15=.int .i64 k∧s9=.nilIface∧Hid ((P.take k).foldl (partStep d.mem at') (0,0)=(a,b))∧Hid (wr.heap[w.heap.size+2]?=some (.cells #[.int .i64 a,.int .i64 b] 54))∧Hid ((togW w d (some ⟨bm,om,none⟩) c).grownBy wr (some (w.heap.size+2))))
 case atStart=>exact ⟨0,0,0,Nat.zero_le _,rfl,rfl,rfl,(rfl:(P.take 0).foldl (partStep d.mem at') (0,0)=(0,0)),togW_2 w d (some ⟨bm,om,none⟩) c,(grown_refl _ _:(togW w d (some ⟨bm,om,none⟩) c).grownBy (togW w d (some ⟨bm,om,none⟩) c) (some (w.heap.size+2)))⟩
 case round =>
  obtain ⟨k,a,b,hk,rfl,rfl,rfl,HF,HC,HGr⟩:=hrel
  have hB:Below w.heap.size w wr:=HB0.out.grown HGr.out (by rw [HW0.out.2.2];omega) (fun j hj=>by cases hj;omega)
  have HBw:Hid (Below w.heap.size w wr):=hB
  have hzr:w.heap.size+2<wr.heap.size:=by have:=HGr.out.size;rw [HW0.out.2.2] at this;omega
  by_cases hlt:k<N
  ·have hkP:k<P.length:=by rw [HN.out];exact hlt
   have hki:(k:Int)<(N:Int):=by omega
   obtain ⟨hcP,h0 | ⟨bp,rfl,hbp,hcell⟩⟩:=HP.out.later hB
   ·have:=HN.out;rw [h0] at this;simp at this;omega
   rw [HN.out] at hcP
   have cP1:=hcell k hkP
   have hmem:P.getD k 0∈P:=by rw [List.getD_eq_getElem?_getD,List.getElem?_eq_getElem hkP];exact List.getElem_mem hkP
   obtain ⟨j,hj,hjn⟩:=HIn.out _ hmem
   have hgd:=HG.out _ hmem
   have HAt:Hid (∀ w',Below wr.heap.size wr w'→_):=fun w' hw'=>HA.out _ hmem w' (onB HBw.out hw')
   have HSt:=take_part (M:=d.mem) (at':=at') hkP
   rw [HF.out] at HSt
   rw [hj] at HAt HSt hgd cP1
   have hgab:goodC (a,b):=by rw [←HF.out];exact good_fold _ _ _ _ good_zero
   unfold partStep at HSt
   rw [show ((j:Int)).toNat=j by omega] at HSt
   simp only at HSt
   obtain ⟨-,-,m2,-⟩:=(HMm.out.later hB).2 j hjn
   have hsg:=HSg.out j hjn
   have cD:wr.cell? ⟨w.heap.size,2,none⟩=some (.slice (some ⟨bm,om,none⟩) d.n c):=(World.cell?_of_block (a:=⟨w.heap.size,2,none⟩) (HGr.out.block w.heap.size (by rw [HW0.out.2.2];omega) (fun e=>by simp at e))).trans HW0.out.1
   obtain ⟨s0,s1,f0,f1⟩:=pair_at HC.out
   have hji:(j:Int)<(d.n:Int):=by omega
   have hADD:=fun w'=>add_yes a b (at' (j:Int)).1 (at' (j:Int)).2 hgab hgd w'
   have hSUB:=fun w'=>sub_yes a b (at' (j:Int)).1 (at' (j:Int)).2 hgab hgd w'
   generalize (at' (j:Int)).1=x at HAt HSt hADD hSUB
   generalize (at' (j:Int)).2=y at HAt HSt hADD hSUB
   generalize (d.mem j).sign=sg at m2 HSt hsg
   have HKeep:Hid (∀ w',Below wr.heap.size wr w'→w'.cell? ⟨w.heap.size+2,0,none⟩=some (.int .i64 a)∧w'.cell? ⟨w.heap.size+2,1,none⟩=some (.int .i64 b)∧w'.frozen? ⟨w.heap.size+2,0,none⟩=false∧w'.frozen? ⟨w.heap.size+2,1,none⟩=false):=fun w' hw'=>pair_at ((hw'.block _ hzr).trans HC.out)
   clear hB hj hgd hgab hmem hcell
   by_cases hs1:sg=1
   ·subst hs1
    rw [if_pos rfl] at HSt
    obtain ⟨r1,hr1⟩:∃ r,plusP a b x y=r:=⟨_,rfl⟩
    obtain ⟨rk,rn⟩:=r1
    rw [hr1] at HSt hADD
    simp only at hADD
    have HNx:Hid ((P.take (k+1)).foldl (partStep d.mem at') (0,0)=(rk,rn)):=HSt
    have HADD:Hid (∀ w',Calls Tryz.prog 125 #[.agg #[.int .i64 a,.int .i64 b],.agg #[.int .i64 x,.int .i64 y]] w' fun e w''=>e=.returned (.tuple #[.agg #[.int .i64 rk,.int .i64 rn],.nilIface])∧Below w'.heap.size w' w''):=hADD
    clear hADD hSUB HSt hr1 hsg
    go_wp2_with fail
    go_region_law ((first
     | (go_simp;refine (HAt.out _ (by go_grown)).mono ?_;rintro e w3 ⟨rfl,hb3⟩;have hN3:=onB (W0:=wr) (by go_grown) hb3;obtain ⟨l0,l1,l2,l3⟩:=HKeep.out _ hN3;clear hb3)
     | (go_simp;refine (HADD.out _).mono ?_;rintro e w4 ⟨rfl,hb4⟩;have hN4:=onB (W0:=wr) (by go_grown) hb4;obtain ⟨n0,n1,n2,n3⟩:=HKeep.out _ hN4;have HN4:Hid (Below wr.heap.size wr _):=hN4;clear hb4)))
    all_goals clear hN3 hN4
    all_goals go_wp2_with fail
    all_goals go_roundg (N-(k+1))
    all_goals first
     | omega
     | exact ⟨k+1,rk,rn,by omega,rfl,by go_num,rfl,HNx,pair_set ((HN4.out.block _ hzr).trans HC.out),pair_grown (grown_then HGr.out HN4.out)⟩
     | exact ⟨k+1,rk,rn,by omega,rfl,by go_num,rfl,HNx,pair_set ((HN4.out.block _ hzr).trans HC.out),grown_drew (pair_grown (grown_then HGr.out HN4.out))⟩
   by_cases hs2:sg = -1
   ·subst hs2
    rw [if_neg (by decide),if_pos rfl] at HSt
    obtain ⟨r1,hr1⟩:∃ r,minusP a b x y=r:=⟨_,rfl⟩
    obtain ⟨rk,rn⟩:=r1
    rw [hr1] at HSt hSUB
    simp only at hSUB
    have HNx:Hid ((P.take (k+1)).foldl (partStep d.mem at') (0,0)=(rk,rn)):=HSt
    have HSUB:Hid (∀ w',Calls Tryz.prog 124 #[.agg #[.int .i64 a,.int .i64 b],.agg #[.int .i64 x,.int .i64 y]] w' fun e w''=>e=.returned (.tuple #[.agg #[.int .i64 rk,.int .i64 rn],.nilIface])∧Below w'.heap.size w' w''):=hSUB
    clear hADD hSUB HSt hr1 hsg hs1
    go_wp2_with fail
    go_region_law ((first
     | (go_simp;refine (HAt.out _ (by go_grown)).mono ?_;rintro e w3 ⟨rfl,hb3⟩;have hN3:=onB (W0:=wr) (by go_grown) hb3;obtain ⟨l0,l1,l2,l3⟩:=HKeep.out _ hN3;clear hb3)
     | (go_simp;refine (HSUB.out _).mono ?_;rintro e w4 ⟨rfl,hb4⟩;have hN4:=onB (W0:=wr) (by go_grown) hb4;obtain ⟨n0,n1,n2,n3⟩:=HKeep.out _ hN4;have HN4:Hid (Below wr.heap.size wr _):=hN4;clear hb4)))
    all_goals clear hN3 hN4
    all_goals go_wp2_with fail
    all_goals go_roundg (N-(k+1))
    all_goals first
     | omega
     | exact ⟨k+1,rk,rn,by omega,rfl,by go_num,rfl,HNx,pair_set ((HN4.out.block _ hzr).trans HC.out),pair_grown (grown_then HGr.out HN4.out)⟩
     | exact ⟨k+1,rk,rn,by omega,rfl,by go_num,rfl,HNx,pair_set ((HN4.out.block _ hzr).trans HC.out),grown_drew (pair_grown (grown_then HGr.out HN4.out))⟩
   ·have hs0:sg=0:=by omega
    subst hs0
    rw [if_neg (by decide),if_neg (by decide)] at HSt
    have HNx:Hid ((P.take (k+1)).foldl (partStep d.mem at') (0,0)=(a,b)):=HSt
    clear hADD hSUB HSt hsg hs1 hs2
    go_wp2_with fail
    go_roundg (N-(k+1))
    case measure=>omega
    case rel=>exact ⟨k+1,a,b,by omega,rfl,by go_num,rfl,HNx,HC,HGr⟩
  ·have hke:k=N:=by omega
   subst hke
   have HV:Hid (V=(a,b)):=by show _=_;rw [←HFin.out];exact HF.out
   obtain ⟨s0,s1,f0,f1⟩:=pair_at HC.out
   have k1:wr.heap[w.heap.size+1]?=some (.cells #[.int .i64 0,.int .i64 0] 54):=(HGr.out.block (w.heap.size+1) (by rw [HW0.out.2.2];omega) (fun e=>by simp at e)).trans HW0.out.2.1
   obtain ⟨e0,e1,g0,g1⟩:=pair_at k1
   clear hB k1
   go_wp2_with fail
   refine bodyPost_ret (v:=.tuple #[.agg #[.int .i64 a,.int .i64 b],.nilIface]) (by simp [results,Tryz.results106,go_sem,e0,e1]) rfl ⟨by rw [HV.out],?_⟩
   exact (HBw.out.setCell (by show w.heap.size≤w.heap.size+1;omega) _).setCell (by show w.heap.size≤w.heap.size+1;omega) _
def BoxD (w:World) (q:Nat) (d:Dm) (A:Option Addr) (c:Nat):Prop:=q<w.heap.size∧w.cell? ⟨q,0,none⟩=some (.string d.name)∧w.cell? ⟨q,1,none⟩=some (.int .i64 d.solve)∧w.cell? ⟨q,2,none⟩=some (.slice A d.n c)
theorem top1 (w:World) (o o':Obj):((w.alloc o).alloc o').heap[w.heap.size+1]?=some o':=by
 have h:=heap_alloc_new (w.alloc o) o'
 rw [show (w.alloc o).heap.size=w.heap.size+1 by simp] at h
 exact h
theorem top0 (w:World) (o o':Obj):((w.alloc o).alloc o').heap[w.heap.size]?=some o:=by
 rw [Below.heap_alloc _ _ _ (by simp)]
 exact heap_alloc_new w o
theorem heap_drewn (w:World) (i:Nat):w.drew.heap[i]?=w.heap[i]?:=rfl
theorem new_after {w w':World} (o:Obj) (hs:w'.heap.size=w.heap.size):(w'.alloc o).heap[w.heap.size]?=some o:=by
 rw [←hs]
 exact heap_alloc_new w' o
theorem set3_at {w:World} {q T:Nat} {x y z:Value} (a b c:Value) (h:w.heap[q]?=some (.cells #[x,y,z] T)):(((w.setCell ⟨q,0,none⟩ a).setCell ⟨q,1,none⟩ b).setCell ⟨q,2,none⟩ c).heap[q]?=some (.cells #[a,b,c] T):=by
 simp [World.setCell,Array.getElem?_modify,h]
theorem set1_at {w:World} {q T:Nat} {x:Value} (a:Value) (h:w.heap[q]?=some (.cells #[x] T)):(w.setCell ⟨q,0,none⟩ a).heap[q]?=some (.cells #[a] T):=by
 simp [World.setCell,Array.getElem?_modify,h]
theorem set3_off {w:World} {q p:Nat} (a b c:Value) (h:p≠q):(((w.setCell ⟨q,0,none⟩ a).setCell ⟨q,1,none⟩ b).setCell ⟨q,2,none⟩ c).heap[p]?=w.heap[p]? :=
 (Below.heap_setCell _ ⟨q,2,none⟩ c p h).trans ((Below.heap_setCell _ ⟨q,1,none⟩ b p h).trans (Below.heap_setCell _ ⟨q,0,none⟩ a p h))
theorem BoxD.of {w:World} {q:Nat} {d:Dm} {A:Option Addr} {c T:Nat} {fr:Nat×Nat} (h:w.heap[q]?=some (.cells #[.string d.name,.int .i64 d.solve,.slice A d.n c] T fr)):BoxD w q d A c :=
 ⟨(Array.getElem?_eq_some_iff.1 h).1,by simp [World.cell?,h],by simp [World.cell?,h],by simp [World.cell?,h]⟩
theorem BoxN.of {w:World} {q:Nat} {v:Value} {T:Nat} {fr:Nat×Nat} (h:w.heap[q]?=some (.cells #[v] T fr)):BoxN w q v :=
 ⟨(Array.getElem?_eq_some_iff.1 h).1,by simp [World.cell?,h]⟩
theorem BoxD.same {w w':World} {q:Nat} {d:Dm} {A:Option Addr} {c:Nat} (h:BoxD w q d A c) (hz:w.heap.size≤w'.heap.size) (hb:w'.heap[q]?=w.heap[q]?):BoxD w' q d A c :=
 ⟨Nat.lt_of_lt_of_le h.1 hz,(World.cell?_of_block (a:=⟨q,0,none⟩) hb).trans h.2.1,(World.cell?_of_block (a:=⟨q,1,none⟩) hb).trans h.2.2.1,(World.cell?_of_block (a:=⟨q,2,none⟩) hb).trans h.2.2.2⟩
theorem BoxD.later {w w':World} {q:Nat} {d:Dm} {A:Option Addr} {c:Nat} (h:BoxD w q d A c) (hB:Below w.heap.size w w'):BoxD w' q d A c:=h.same hB.size (hB.block q h.1)
theorem BoxN.made (w:World) (v:Value) (T:Nat):BoxN (w.alloc (.cells #[v] T)) w.heap.size v:=⟨by simp,by simp⟩
def fmW (w:World) (A0:Option Addr) (n cap g N c m:Nat):World:=((w.alloc (.cells #[.slice A0 n cap] 24)).alloc (.cells #[.slice (some ⟨g,0,none⟩) N c] 42)).alloc (.cells #[.int .i64 m] 3)
theorem fmW_size (w:World) (A0:Option Addr) (n cap g N c m:Nat):(fmW w A0 n cap g N c m).heap.size=w.heap.size+3:=by unfold fmW;simp
theorem fmW_below (w:World) (A0:Option Addr) (n cap g N c m:Nat):Below w.heap.size w (fmW w A0 n cap g N c m):=by unfold fmW;go_grown
theorem fmW_o (w:World) (A0:Option Addr) (n cap g N c m:Nat):BoxN (fmW w A0 n cap g N c m) w.heap.size (.slice A0 n cap):=by
 unfold fmW
 exact ((BoxN.made w _ _).later (by go_grown)).later (by go_grown)
theorem fmW_c (w:World) (A0:Option Addr) (n cap g N c m:Nat):BoxN (fmW w A0 n cap g N c m) (w.heap.size+1) (.slice (some ⟨g,0,none⟩) N c):=by
 unfold fmW
 have:=BoxN.made (w.alloc (.cells #[.slice A0 n cap] 24)) (.slice (some ⟨g,0,none⟩) N c) 42
 rw [show (w.alloc (.cells #[.slice A0 n cap] 24)).heap.size=w.heap.size+1 by simp] at this
 exact this.later (by go_grown)
theorem fmW_m (w:World) (A0:Option Addr) (n cap g N c m:Nat):BoxN (fmW w A0 n cap g N c m) (w.heap.size+2) (.int .i64 m):=by
 unfold fmW
 have:=BoxN.made ((w.alloc (.cells #[.slice A0 n cap] 24)).alloc (.cells #[.slice (some ⟨g,0,none⟩) N c] 42)) (.int .i64 m) 3
 rw [show ((w.alloc (.cells #[.slice A0 n cap] 24)).alloc (.cells #[.slice (some ⟨g,0,none⟩) N c] 42)).heap.size=w.heap.size+2 by simp] at this
 exact this
theorem keepF {W w':World} {q b o:Nat} {u v0 v1 v2:Value} (h:(q<W.heap.size∧b<W.heap.size)∧W.cell? ⟨q,0,none⟩=some u∧W.cell? ⟨b,o,none⟩=some v0∧W.cell? ⟨b,o+1,none⟩=some v1∧W.cell? ⟨b,o+2,none⟩=some v2) (hB:Below W.heap.size W w'):Below W.heap.size W w'∧w'.cell? ⟨q,0,none⟩=some u∧w'.cell? ⟨b,o,none⟩=some v0∧w'.cell? ⟨b,o+1,none⟩=some v1∧w'.cell? ⟨b,o+2,none⟩=some v2:=by
 obtain ⟨⟨h1,h2⟩,c0,c1,c2,c3⟩:=h
 exact ⟨hB,(hB.cell (p:=⟨q,0,none⟩) h1).trans c0,(hB.cell (p:=⟨b,o,none⟩) h2).trans c1,(hB.cell (p:=⟨b,o+1,none⟩) h2).trans c2,(hB.cell (p:=⟨b,o+2,none⟩) h2).trans c3⟩
theorem ints_other {w w':World} {b g c:Nat} {X:List Int} (h:IntsAt w (some ⟨b,0,none⟩) c X) (hne:b≠g) (hG:w.grownBy w' (some g)):IntsAt w' (some ⟨b,0,none⟩) c X:=by
 obtain ⟨h1,h2 | ⟨b',h2,h3,h4⟩⟩:=h
 ·exact ⟨h1,Or.inl h2⟩
 ·cases h2
  exact ⟨h1,Or.inr ⟨b,rfl,Nat.lt_of_lt_of_le h3 hG.size,fun j hj=>(World.cell?_of_block (a:=⟨b,j,none⟩) (hG.block b h3 fun e=>hne (by simpa using e))).trans (h4 j hj)⟩⟩
theorem boxd_other {w w':World} {q g:Nat} {d:Dm} {A:Option Addr} {c:Nat} (h:BoxD w q d A c) (hne:q≠g) (hG:w.grownBy w' (some g)):BoxD w' q d A c:=h.same hG.size (hG.block q h.1 fun e=>hne (by simpa using e))
theorem pass_hit {D:Nat→Dm} {n dim m x:Nat} {L:List (Int×Int)} (h:x / stepD D n dim % (D dim).n=m):passTo D n dim m L (x+1)=(passTo D n dim m L x).set x (partsV (D dim).mem (atP D n dim m x (passTo D n dim m L x)) (partsOf (D dim).mem (D dim).n m)):=by rw [passTo,if_pos h]
theorem pass_miss {D:Nat→Dm} {n dim m x:Nat} {L:List (Int×Int)} (h : ¬ x / stepD D n dim % (D dim).n=m):passTo D n dim m L (x+1)=passTo D n dim m L x:=by rw [passTo,if_neg h]
set_option maxHeartbeats 16000000 in
theorem fmem_any (b o cap n dim m g c:Nat) (D:Nat→Dm) (A:Nat→Option Addr) (C:Nat→Nat) (L:List (Int×Int)) (w0 w:World) (hR:(allErr D n).2.2=0) (hdim:dim<n) (hcap:n≤cap) (hm:m<(D dim).n) (hLN:L.length=prodN D n) (hLc:L.length≤c) (hc:c≤9223372036854775807) (hgood:goodL L) (hM:DimsAt w0 b o n D A C) (hB0:Below w0.heap.size w0 w) (hg0:w0.heap.size≤g) (hL:CelB w g L) :
  Calls Tryz.prog 72 #[.agg #[.slice (some ⟨b,o,none⟩) n cap],.slice (some ⟨g,0,none⟩) L.length c,.int .i64 dim,.int .i64 m] w fun e w'=>e=.returned .nilIface∧CelB w' g (mbrV D n dim m L)∧w.grownBy w' (some g):=by
 obtain ⟨hn1,hn4,hp3,hd⟩:=allErr_some hR
 have hdk:=(allErr_right hR).2 dim hdim
 obtain ⟨hd1,hd12⟩:=hd dim hdim
 have hgz:=hL.lt
 have HR:Hid ((allErr D n).2.2=0):=hR
 have HM:Hid (DimsAt w0 b o n D A C):=hM
 have HBz:Hid (Below w0.heap.size w0 w):=hB0
 have HL:Hid (CelB w g L):=hL
 have HGd:Hid (goodL L):=hgood
 have HD:Hid (∀ j,j<n→1≤(D j).n∧(D j).n≤12):=hd
 obtain ⟨N,hN⟩:∃ N,L.length=N:=⟨_,rfl⟩
 have HN:Hid (L.length=N):=hN
 have HLN:Hid (L.length=prodN D n):=hLN
 have hN3:N≤3000:=by omega
 have hN3':(N:Int)≤3000:=by omega
 rw [hN] at hLc ⊢
 have hdi:(dim:Int)<(n:Int):=by omega
 have hn':(n:Int)≤4:=by omega
 have hBW:=fmW_below w (some ⟨b,o,none⟩) n cap g N c m
 obtain ⟨W,hW⟩:∃ W,fmW w (some ⟨b,o,none⟩) n cap g N c m=W:=⟨_,rfl⟩
 have HWz:Hid (W.heap.size=w.heap.size+3):=by show _=_;rw [←hW];exact fmW_size ..
 have HWo:Hid (BoxN W w.heap.size (.slice (some ⟨b,o,none⟩) n cap)):=by rw [←hW];exact fmW_o ..
 have HWc:Hid (BoxN W (w.heap.size+1) (.slice (some ⟨g,0,none⟩) N c)):=by rw [←hW];exact fmW_c ..
 have HWm:Hid (BoxN W (w.heap.size+2) (.int .i64 m)):=by rw [←hW];exact fmW_m ..
 rw [hW] at hBW
 unfold fmW at hW
 have HBW:Hid (Below w.heap.size w W):=hBW
 have HMW:Hid (DimsAt W b o n D A C):=HM.out.later (onB HBz.out hBW)
 obtain ⟨d0,d1,d2,-⟩:=HMW.out.2 dim hdim
 have HFo:Hid ((w.heap.size<W.heap.size∧b<W.heap.size)∧W.cell? ⟨w.heap.size,0,none⟩=some (.slice (some ⟨b,o,none⟩) n cap)∧W.cell? ⟨b,o+dim*3,none⟩=some (.string (D dim).name)∧W.cell? ⟨b,o+dim*3+1,none⟩=some (.int .i64 (D dim).solve)∧W.cell? ⟨b,o+dim*3+2,none⟩=some (.slice (A dim) (D dim).n (C dim))):=⟨⟨HWo.out.1,HMW.out.1⟩,HWo.out.2,d0,d1,d2⟩
 have HSt:Hid (∀ w',Below W.heap.size W w'→Calls Tryz.prog 104 #[.agg #[.slice (some ⟨b,o,none⟩) n cap],.int .i64 dim] w' fun e w''=>e=.returned (.int .i64 (stepD D n dim))∧Below w'.heap.size w' w''):=fun w' hw'=>step_any b o cap n dim D A C w' hdim hn4 hcap HD.out (HMW.out.later hw')
 obtain ⟨S,hS⟩:∃ S,stepD D n dim=S:=⟨_,rfl⟩
 have HS:Hid (stepD D n dim=S):=hS
 rw [hS] at HSt
 obtain ⟨dd,hdd⟩:∃ d,D dim=d:=⟨_,rfl⟩
 obtain ⟨AA,hAA⟩:∃ d,A dim=d:=⟨_,rfl⟩
 obtain ⟨CC,hCC⟩:∃ d,C dim=d:=⟨_,rfl⟩
 have HDD:Hid (D dim=dd∧A dim=AA∧C dim=CC):=⟨hdd,hAA,hCC⟩
 rw [hdd] at hdk hd1 hd12 hm
 rw [hdd,hAA,hCC] at HFo
 have c0:=HFo.out.2.1
 clear hR hM hB0 hL hgood hd hN hLN hBW hS hdd hAA hCC d0 d1 d2
 go_enter Tryz.func72,Tryz.ntmps72
 go_wp2_with fail
 clear hW
 go_cut [9,10] (fun s9 s10 wx => ∃ bd ba,s9=.pointer (some ⟨bd,0,none⟩)∧s10=.pointer (some ⟨ba,0,none⟩)∧W.heap.size≤bd∧W.heap.size≤ba∧BoxD wx bd dd AA CC∧BoxN wx ba (.int .i64 S)∧Below W.heap.size W wx)
 case first=>as_aux_lemma =>
  go_region_held3 (fun w'=>Below W.heap.size W w'∧w'.cell? ⟨w.heap.size,0,none⟩=some (.slice (some ⟨b,o,none⟩) n cap)∧w'.cell? ⟨b,o+dim*3,none⟩=some (.string dd.name)∧w'.cell? ⟨b,o+dim*3+1,none⟩=some (.int .i64 dd.solve)∧w'.cell? ⟨b,o+dim*3+2,none⟩=some (.slice AA dd.n CC))
   ((refine keepF HFo.out ?_;go_grown;done))
   (first | (go_at_call 104;refine (HSt.out _ (by go_grown)).mono ?_;rintro e w3 ⟨rfl,hb3⟩;have hM3:=onB (W0:=W) (by go_grown) hb3;obtain ⟨hc3,hf3⟩:=bcell hb3;have hk3:=hb3.block;have hz3:=bsize hb3;(try simp [Nat.add_one_le_iff] at hz3);have hy3:=hM3.size;clear hb3))
  all_goals go_wp2_with fail
  all_goals go_meet
  all_goals (refine ⟨_,_,rfl,rfl,?_,?_,?_,?_,by go_grown⟩)
  all_goals first | omega | (simp;omega) | skip
  all_goals first | refine BoxD.of (T:=30) (fr:=(0,0)) ?_ | refine BoxN.of (T:=3) (fr:=(0,0)) ?_
  all_goals first | (rw [top1];done) | (rw [top0];done) | skip
  all_goals first
   | (rw [new_after (w:=w3) _ (by simp [World.setCell])];done)
   | (have e0:=hk3 W.heap.size (by simp);rw [heap_drewn,heap_alloc_new] at e0;rw [Below.heap_alloc _ _ _ (by simp [World.setCell];omega)];first | (rw [set3_at _ _ _ e0];done) | (rw [set1_at _ e0];done))
   | (have e0:=hk3 W.heap.size (by simp;omega);have e1:=hk3 (W.heap.size+1) (by simp);rw [heap_drewn] at e0 e1;rw [top0] at e0;rw [top1] at e1;first | (rw [Below.heap_setCell _ _ _ _ (by simp),set3_at _ _ _ e0];done) | (rw [Below.heap_setCell _ _ _ _ (by simp),set3_at _ _ _ e1];done) | (rw [set1_at _ ((set3_off _ _ _ (by omega)).trans e1)];done) | (rw [set1_at _ ((set3_off _ _ _ (by omega)).trans e0)];done))
   | (trace_state;sorry)
 case rest=>as_aux_lemma =>
 obtain ⟨bd,ba,rfl,rfl,hbd,hba,hBd,hBa,hb⟩:=hcut
 obtain ⟨w1,rfl⟩:∃ w1:World,w1=wc:=⟨_,rfl⟩
 have HB1:Hid (Below w.heap.size w w1):=onB HBW.out hb
 have hMV:MemsV w1 AA CC dd.n dd.mem:=by
  have:=((HM.out.later (onB HBz.out HB1.out)).2 dim hdim).2.2.2
  rw [HDD.out.1,HDD.out.2.1,HDD.out.2.2] at this
  exact this
 have hpa:=parts_new dd AA CC (m:Int) w1 hMV
 have hte:treeErr dd [(m:Int)]=0:=by rw [treeErr_one hdk,if_neg (by omega)]
 rw [lst_ok hte,hte,errV_zero] at hpa
 unfold dimV at hpa
 obtain ⟨z1,x0,x1,x2⟩:=hBd
 obtain ⟨z2,y0⟩:=hBa
 have HBd:Hid (BoxD w1 bd dd AA CC):=⟨z1,x0,x1,x2⟩
 have HBa:Hid (BoxN w1 ba (.int .i64 S)):=⟨z2,y0⟩
 have HBc:Hid (BoxN w1 (w.heap.size+1) (.slice (some ⟨g,0,none⟩) N c)):=HWc.out.later hb
 have HBm:Hid (BoxN w1 (w.heap.size+2) (.int .i64 m)):=HWm.out.later hb
 have ym:=HBm.out.2
 have HZ:Hid (w.heap.size+3≤w1.heap.size∧w.heap.size+3≤bd∧w.heap.size+3≤ba):=by
  have h1:=HWz.out
  have h2:=hb.size
  show _∧_∧_
  omega
 obtain ⟨P,hP⟩:∃ P,partsOf dd.mem dd.n (m:Int)=P:=⟨_,rfl⟩
 have HPe:Hid (partsOf dd.mem dd.n (m:Int)=P):=hP
 rw [hP] at hpa
 have hP12:P.length≤12:=by rw [←hP];exact Nat.le_trans (selTo_len _ _) hd12
 clear hb hMV hte c0 HSt HFo HWo HWc HWm HMW HBW hP
 go_wp2_with fail
 refine hpa.mono ?_
 rintro e w2 ⟨⟨AP,cP,rfl,hI,hNew⟩,hb2⟩
 have HB2:Hid (Below w1.heap.size w1 w2):=hb2
 have HI:Hid (IntsAt w2 AP cP P):=hI
 have HNew:Hid (∀ b o,AP=some ⟨b,o,none⟩→w1.heap.size≤b):=hNew
 obtain ⟨NP,hNP⟩:∃ NP,P.length=NP:=⟨_,rfl⟩
 have HNP:Hid (P.length=NP):=hNP
 rw [hNP] at hP12 ⊢
 have hNP':(NP:Int)≤12:=by omega
 clear hb2 hI hNew hpa hNP x0 x1 x2 y0 ym
 by_cases hP0:NP=0
 ·subst hP0
  have HR:Hid (mbrV D n dim m L=L):=by
   show _=_
   unfold mbrV
   rw [HDD.out.1,if_pos]
   rw [HPe.out]
   exact List.eq_nil_of_length_eq_zero HNP.out
  go_wp2_with fail
  first | (go_quiet (fail);go_wp2_with fail) | skip
  go_ret
  refine ⟨rfl,?_⟩
  rw [HR.out]
  first | exact ⟨HL.out.later (onB HB1.out HB2.out),grown_below (onB HB1.out HB2.out)⟩ | exact ⟨HL.out.later (below_drewN (onB HB1.out HB2.out) _),grown_below (below_drewN (onB HB1.out HB2.out) _)⟩
 have hNP0:((NP:Int) == 0)=false:=by simp;omega
 have HPne:Hid (P≠[]):=fun e=>by have:=HNP.out;rw [e] at this;simp at this;omega
 obtain ⟨bp,hbp⟩:∃ bp,AP=some ⟨bp,0,none⟩:=by
  obtain ⟨-,h0 | ⟨b',h0,-⟩⟩:=HI.out
  ·exact absurd h0 HPne.out
  ·exact ⟨b',h0⟩
 subst hbp
 have HBp:Hid (w1.heap.size≤bp):=HNew.out bp 0 rfl
 have HBd2:Hid (BoxD w2 bd dd AA CC):=HBd.out.later HB2.out
 have HBa2:Hid (BoxN w2 ba (.int .i64 S)):=HBa.out.later HB2.out
 have HBc2:Hid (BoxN w2 (w.heap.size+1) (.slice (some ⟨g,0,none⟩) N c)):=HBc.out.later HB2.out
 have HBm2:Hid (BoxN w2 (w.heap.size+2) (.int .i64 m)):=HBm.out.later HB2.out
 have HL2:Hid (CelB w2 g L):=HL.out.later (onB HB1.out HB2.out)
 have HBz2:Hid (Below w0.heap.size w0 w2):=onB HBz.out (onB HB1.out HB2.out)
 have HBw2:Hid (Below w.heap.size w w2):=onB HB1.out HB2.out
 have yc:=HBc2.out.2
 clear HBd HBa HBc HBm HNew
 go_wp2_with fail
 first | (go_quiet (fail);go_wp2_with fail) | skip
 clear yc
 go_loopg [40] N (fun gg s40 wr => ∃ (x:Nat),x≤N∧gg=N-x∧s40=.int .i64 x∧Hid (CelB wr g (passTo D n dim m L x))∧Hid (w2.grownBy wr (some g)))
 case atStart=>exact ⟨0,Nat.zero_le _,rfl,rfl,HL2,grown_refl w2 (some g)⟩
 case round =>
  obtain ⟨x,hx,rfl,rfl,HC,HG⟩:=hrel
  have hBz:Below w0.heap.size w0 wr:=HBz2.out.grown HG.out HBz2.out.size (fun j hj=>by cases hj;exact hg0)
  have HBzr:Hid (Below w0.heap.size w0 wr):=hBz
  have HPl:Hid ((passTo D n dim m L x).length=N):=by show _=_;rw [pass_len];exact HN.out
  by_cases hlt:x<N
  ·have hxi:(x:Int)<(N:Int):=by omega
   have hzz:=HZ.out
   have hzp:=HBp.out
   have HBdr:Hid (BoxD wr bd dd AA CC):=boxd_other HBd2.out (by omega) HG.out
   have HBar:Hid (BoxN wr ba (.int .i64 S)):=boxn_other HBa2.out (by omega) HG.out
   have HBcr:Hid (BoxN wr (w.heap.size+1) (.slice (some ⟨g,0,none⟩) N c)):=boxn_other HBc2.out (by omega) HG.out
   have HBmr:Hid (BoxN wr (w.heap.size+2) (.int .i64 m)):=boxn_other HBm2.out (by omega) HG.out
   have HIr:Hid (IntsAt wr (some ⟨bp,0,none⟩) cP P):=ints_other HI.out (by omega) HG.out
   have hMr:=((HM.out.later hBz).2 dim hdim).2.2.2
   rw [HDD.out.1,HDD.out.2.1,HDD.out.2.2] at hMr
   obtain ⟨hCC,h0 | ⟨bm,om,rfl,hMm⟩⟩:=hMr
   ·omega
   have HMm:Hid (MemsAt wr bm om dd.n dd.mem):=hMm
   have hSp:1≤S:=by rw [←HS.out];exact stepD_pos (fun i hi=>(HD.out i hi).1) hdim
   obtain ⟨Q,hQ⟩:∃ Q:Nat,x / S=Q:=⟨_,rfl⟩
   obtain ⟨R,hRr⟩:∃ R:Nat,Q % dd.n=R:=⟨_,rfl⟩
   have hqi:(x:Int) / (S:Int)=(Q:Int):=by rw [←hQ];exact (Int.natCast_ediv _ _).symm
   have hqt:(x:Int).tdiv (S:Int)=(Q:Int):=by rw [←hQ];rfl
   have hri:(Q:Int).tmod (dd.n:Int)=(R:Int):=by rw [←hRr];rfl
   have hQ3:Q≤3000:=by rw [←hQ];exact Nat.le_trans (Nat.div_le_self _ _) (by omega)
   have hR3:R<dd.n:=by rw [←hRr];exact Nat.mod_lt _ (by omega)
   have hQ3':(Q:Int)≤3000:=by omega
   have hR3':(R:Int)≤12:=by omega
   have hwQ:IntKind.i64.wrap (Q:Int)=(Q:Int):=IntWalk.i64_in _ (by omega)
   have hwR:IntKind.i64.wrap (R:Int)=(R:Int):=IntWalk.i64_in _ (by omega)
   have hS0:((S:Int) == 0)=false:=by simp;omega
   have hS0' : ¬ S=0:=by omega
   have hdn0:((dd.n:Int) == 0)=false:=by simp;omega
   have hdn0' : ¬ dd.n=0:=by omega
   have HDig:Hid (x / stepD D n dim % (D dim).n=R):=by show _=_;rw [HS.out,HDD.out.1,hQ,hRr]
   obtain ⟨y,hy⟩:∃ y,wr.alloc (.cells #[.int .i64 (x:Int)] 3)=y:=⟨_,rfl⟩
   have hBy:Below wr.heap.size wr y:=by rw [←hy];go_grown
   have HBy:Hid (Below wr.heap.size wr y):=hBy
   have HBx:Hid (BoxN y wr.heap.size (.int .i64 x)):=by rw [←hy];exact BoxN.made ..
   have hx0:=HBx.out.2
   obtain ⟨hx1,hx2,hx3,hx4⟩:=HBdr.out.later hBy
   have hx5:=(HBar.out.later hBy).2
   have hx6:=(HBmr.out.later hBy).2
   clear hBz hMm hQ hRr hBy hx1
   by_cases hRm:R=m
   ·have hne:((R:Int) != (m:Int))=false:=by simp [hRm]
    have HDm:Hid (x / stepD D n dim % (D dim).n=m):=by show _=_;rw [HDig.out];exact hRm
    obtain ⟨Lx,hLx⟩:∃ Lx,passTo D n dim m L x=Lx:=⟨_,rfl⟩
    have HLx:Hid (passTo D n dim m L x=Lx):=hLx
    have HCx:Hid (CelB y g Lx):=by rw [←hLx];exact HC.out.later HBy.out
    have hLxN:Lx.length=N:=by rw [←hLx];exact HPl.out
    have hLxg:goodL Lx:=by rw [←hLx];exact pass_good HGd.out x
    have HIn:Hid (∀ k∈P,∃ j:Nat,k=j∧j<dd.n):=fun k hk=>by
     rw [←HPe.out] at hk
     obtain ⟨j,h1,-,h3,-⟩:=part_behind (Tr.of hdk) hk
     exact ⟨j,h1,h3⟩
    have hAsk:∀ w',Below y.heap.size y w'→AskC (w.heap.size+1) wr.heap.size (w.heap.size+2) ba w' P (atP D n dim m x Lx):=fun w' hw' k hk w'' hw''=>by
     obtain ⟨j,rfl,hj⟩:=HIn.out k hk
     obtain ⟨yy,hyy,hylt,-,-⟩:=part_place (D:=D) (n:=n) (dim:=dim) (m:=m) (x:=x) (j:=j) (fun i hi=>(HD.out i hi).1) hdim (by have:=HN.out;have:=HLN.out;omega) HDm.out (by rw [HDD.out.1];exact hj)
     have hyL:yy<Lx.length:=by have:=HN.out;have:=HLN.out;omega
     have hBB:Below y.heap.size y w'':=onB hw' hw''
     have h:=fm1_any (w.heap.size+1) wr.heap.size (w.heap.size+2) ba g c Lx x m S (j:Int) yy w'' (by omega) hc (by omega) (by rw [←HS.out];exact hyy) hyL (by omega) (by omega) (by rw [hLxN];exact ((HBcr.out.later HBy.out).later hBB).2) (HBx.out.later hBB).2 ((HBmr.out.later HBy.out).later hBB).2 ((HBar.out.later HBy.out).later hBB).2 (HCx.out.later hBB)
     have e:atP D n dim m x Lx (j:Int)=Lx.getD yy noC:=by unfold atP cAt;rw [hyy];rfl
     rw [e]
     exact h
    have HTog:Hid (∀ w',Below y.heap.size y w'→Calls Tryz.prog 106 #[.agg #[.string dd.name,.int .i64 dd.solve,.slice (some ⟨bm,om,none⟩) dd.n CC],.slice (some ⟨bp,0,none⟩) NP cP,.func (.func 107) #[] #[.pointer (some ⟨w.heap.size+1,0,none⟩),.pointer (some ⟨wr.heap.size,0,none⟩),.pointer (some ⟨w.heap.size+2,0,none⟩),.pointer (some ⟨ba,0,none⟩)]] w' fun e w''=>e=.returned (.tuple #[.agg #[.int .i64 (partsV dd.mem (atP D n dim m x Lx) P).1,.int .i64 (partsV dd.mem (atP D n dim m x Lx) P).2],.nilIface])∧Below w'.heap.size w' w''):=fun w' hw'=>by
     have h:=tog_any (w.heap.size+1) wr.heap.size (w.heap.size+2) ba bm om CC dd (some ⟨bp,0,none⟩) cP P (atP D n dim m x Lx) w' hd12 (by rw [HNP.out];exact hP12) HIn.out (Sg.of hdk) (fun k _=>good_at hLxg _) (HMm.out.later (onB HBy.out hw')) (HIr.out.later (onB HBy.out hw')) (hAsk w' hw')
     rw [HNP.out] at h
     exact h
    have HNx:Hid (passTo D n dim m L (x+1)=Lx.set x (partsV dd.mem (atP D n dim m x Lx) P)):=by
     show _=_
     rw [pass_hit HDm.out,hLx,HDD.out.1,HPe.out]
    obtain ⟨⟨pk,pn⟩,hpv⟩:∃ v:Int×Int,partsV dd.mem (atP D n dim m x Lx) P=v:=⟨_,rfl⟩
    rw [hpv] at HTog HNx
    simp only at HTog
    have hyc:=(HBcr.out.later HBy.out).2
    have HBcy:Hid (BoxN y (w.heap.size+1) (.slice (some ⟨g,0,none⟩) N c)):=HBcr.out.later HBy.out
    have HLxN:Hid (Lx.length=N):=hLxN
    clear hAsk hLx hLxN hLxg hpv hRm
    go_wp2_with fail
    first | (go_quiet (fail);go_wp2_with fail) | skip
    refine (HTog.out _ (by first | exact Below.refl _ _ | exact below_drewN (Below.refl _ _) _)).mono ?_
    rintro e w5 ⟨rfl,hb5⟩
    have hB5:Below y.heap.size y w5:=onB (by first | exact Below.refl _ _ | exact below_drewN (Below.refl _ _) _) hb5
    obtain ⟨y5,hy5⟩:∃ y5,w5.alloc (.cells #[.int .i64 pk,.int .i64 pn] 54)=y5:=⟨_,rfl⟩
    have hBy5:Below w5.heap.size w5 y5:=by rw [←hy5];go_grown
    have hB55:Below y.heap.size y y5:=onB hB5 hBy5
    have HB55:Hid (Below y.heap.size y y5):=hB55
    obtain ⟨p0,p1,p2,p3⟩:=pair_at (show y5.heap[w5.heap.size]?=some (.cells #[.int .i64 pk,.int .i64 pn] 54 (0,0)) from by rw [←hy5];exact heap_alloc_new ..)
    have r1:=(HBcy.out.later hB55).2
    have r2:=(HBx.out.later hB55).2
    have hxL:x<Lx.length:=by rw [HLxN.out];exact hlt
    have HC5:Hid (CelB y5 g Lx):=HCx.out.later hB55
    obtain ⟨g1,g2⟩:=HC5.out.at hxL
    have g3:=HC5.out.frozen (x*2)
    have g4:=HC5.out.frozen (x*2+1)
    have HC6:Hid (CelB ((y5.setCell ⟨g,x*2,none⟩ (.int .i64 pk)).setCell ⟨g,x*2+1,none⟩ (.int .i64 pn)) g (passTo D n dim m L (x+1))):=by show CelB _ _ _;rw [HNx.out];exact HC5.out.set hxL pk pn
    have HG6:Hid (w2.grownBy ((y5.setCell ⟨g,x*2,none⟩ (.int .i64 pk)).setCell ⟨g,x*2+1,none⟩ (.int .i64 pn)) (some g)):=cel_grown (grown_then (grown_then HG.out HBy.out) hB55)
    clear hb5 hB5 hBy5 hB55 hxL HTog hx0 hx2 hx3 hx4 hx5 hx6 hyc
    go_wp2_with fail
    go_roundg (N-(x+1))
    case measure=>omega
    case rel=>exact ⟨x+1,by omega,rfl,by go_num,HC6,HG6⟩
   ·have hne:((R:Int) != (m:Int))=true:=by simp;omega
    have HNx:Hid (passTo D n dim m L (x+1)=passTo D n dim m L x):=pass_miss (by rw [HDig.out];exact hRm)
    have HG3:Hid (w2.grownBy y (some g)):=grown_then HG.out HBy.out
    have HC3:Hid (CelB y g (passTo D n dim m L (x+1))):=by show CelB _ _ _;rw [HNx.out];exact HC.out.later HBy.out
    clear hRm
    go_wp2_with fail
    first | (go_quiet (fail);go_wp2_with fail) | skip
    go_roundg (N-(x+1))
    case measure=>omega
    case rel=>first | exact ⟨x+1,by omega,rfl,by go_num,HC3,HG3⟩ | exact ⟨x+1,by omega,rfl,by go_num,HC3.out.later (below_drewN (Below.refl _ _) _),grown_then HG3.out (below_drewN (Below.refl _ _) _)⟩
  ·have hxe:x=N:=by omega
   subst hxe
   have HR:Hid (mbrV D n dim m L=passTo D n dim m L x):=by
    show _=_
    unfold mbrV
    rw [HDD.out.1,if_neg (by rw [HPe.out];exact HPne.out),HN.out]
   clear hBz
   go_wp2_with fail
   go_ret
   refine ⟨rfl,?_⟩
   rw [HR.out]
   exact ⟨HC.out,grown_trans (grown_below HBw2.out) HG.out⟩
def onceErr (D:Nat→Dm) (n:Nat) (L:List (Int×Int)) (dim:Int):Int:=if chkErr D n L≠0 then chkErr D n L else if dim<0∨(n:Int)≤dim then 1 else 0
def onceR (D:Nat→Dm) (n:Nat) (L:List (Int×Int)) (dim:Int):List (Int×Int):=if onceErr D n L dim=0 then onceV D n dim.toNat L else []
theorem on0 {D:Nat→Dm} {n:Nat} {L:List (Int×Int)} {dim:Int} (h:chkErr D n L≠0):onceErr D n L dim=chkErr D n L∧onceR D n L dim=[]:=by
 have h1:onceErr D n L dim=chkErr D n L:=by unfold onceErr;rw [if_pos h]
 exact ⟨h1,by unfold onceR;rw [h1,if_neg h]⟩
theorem on1 {D:Nat→Dm} {n:Nat} {L:List (Int×Int)} {dim:Int} (h:chkErr D n L=0) (h1:dim<0∨(n:Int)≤dim):onceErr D n L dim=1∧onceR D n L dim=[]:=by
 have h2:onceErr D n L dim=1:=by unfold onceErr;rw [if_neg (by simpa using h),if_pos h1]
 exact ⟨h2,by unfold onceR;rw [h2,if_neg (by decide)]⟩
theorem on2 {D:Nat→Dm} {n:Nat} {L:List (Int×Int)} {dim:Nat} (h:chkErr D n L=0) (h1:dim<n):onceErr D n L dim=0∧onceR D n L dim=onceV D n dim L:=by
 have h2:onceErr D n L dim=0:=by unfold onceErr;rw [if_neg (by simpa using h),if_neg (by omega)]
 exact ⟨h2,by unfold onceR;rw [h2,if_pos rfl];rfl⟩
theorem once_next {D:Nat→Dm} {n dim:Nat} {L:List (Int×Int)} (r:Nat):onceTo D n dim L (r+1)=mbrV D n dim ((D dim).n-1-r) (onceTo D n dim L r):=rfl
set_option maxHeartbeats 8000000 in
theorem fonce_any (A0:Option Addr) (cap n:Nat) (D:Nat→Dm) (A:Nat→Option Addr) (C:Nat→Nat) (AC:Option Addr) (cc:Nat) (L:List (Int×Int)) (dim:Int) (w:World) (hM:DimsV w A0 cap n D A C) (hL:CelV w AC cc L) :
  Calls Tryz.prog 40 #[.agg #[.slice A0 n cap],.slice AC L.length cc,.int .i64 dim] w fun e w'=>(∃ A' c',e=.returned (.tuple #[.slice A' (onceR D n L dim).length c',errV (onceErr D n L dim)])∧CelV w' A' c' (onceR D n L dim))∧Below w.heap.size w w':=by
 have hB0:=ownOut_below w A0 n cap 24
 have h:=fcheck_any A0 cap n D A C AC cc L (ownOut w A0 n cap 24) (hM.later hB0) (hL.later hB0)
 have HB0:Hid (Below w.heap.size w (ownOut w A0 n cap 24)):=hB0
 have HLv:Hid (CelV w AC cc L):=hL
 have HM:Hid (DimsV w A0 cap n D A C):=hM
 clear hM hL hB0
 by_cases he:chkErr D n L=0
 ·obtain ⟨hR,hLN,hgood⟩:=chk_right he
  obtain ⟨hn1,hn4,hp3,hd⟩:=allErr_some hR
  have HE:Hid (chkErr D n L=0):=he
  have HR:Hid ((allErr D n).2.2=0):=hR
  have HGd:Hid (goodL L):=hgood
  have HLN:Hid (L.length=prodN D n):=hLN
  have HD:Hid (∀ j,j<n→1≤(D j).n∧(D j).n≤12):=hd
  have hL0:0<L.length:=by rw [hLN];exact prodN_pos fun j hj=>(hd j hj).1
  have hL3:L.length≤3000:=by omega
  rw [he,errV_zero] at h
  obtain ⟨N,hN⟩:∃ N,L.length=N:=⟨_,rfl⟩
  have HN:Hid (L.length=N):=hN
  rw [hN] at h hL0 hL3 ⊢
  have hn':(n:Int)≤4:=by omega
  clear he hR hgood hLN hd hN
  by_cases hdm:dim<0∨(n:Int)≤dim
  ·have HO:Hid (onceErr D n L dim=1∧onceR D n L dim=[]):=on1 HE.out hdm
   by_cases hd0:dim<0
   ·have hdd:decide (dim<0)=true:=decide_eq_true hd0
    clear hdm
    go_enter Tryz.func40,Tryz.ntmps40
    go_wp2_with fail
    refine h.mono ?_
    rintro e w1 ⟨rfl,hb1⟩
    have HB:Hid (Below w.heap.size w w1):=onB HB0.out hb1
    clear hb1 h
    go_wp2_with fail
    first | (go_quiet (fail);go_wp2_with fail) | skip
    go_ret2
    rw [HO.out.1,HO.out.2]
    exact ⟨⟨none,0,rfl,CelV.nil _ _ _ (by decide)⟩,by first | exact HB.out | exact below_drewN HB.out _⟩
   ·have hdd:decide (dim<0)=false:=decide_eq_false hd0
    have hdn:decide ((n:Int)≤dim)=true:=decide_eq_true (by omega)
    have hb0:w.heap.size<(ownOut w A0 n cap 24).heap.size:=by rw [ownOut_size];omega
    have hbo:=ownOut_at w A0 n cap 24
    have HBo:Hid (w.heap.size<(ownOut w A0 n cap 24).heap.size∧(ownOut w A0 n cap 24).cell? ⟨w.heap.size,0,none⟩=some (.slice A0 n cap)):=⟨hb0,hbo⟩
    clear hdm hb0 hbo
    go_enter Tryz.func40,Tryz.ntmps40
    go_wp2_with fail
    refine h.mono ?_
    rintro e w1 ⟨rfl,hb1⟩
    have HB:Hid (Below w.heap.size w w1):=onB HB0.out hb1
    have c1:=(hb1.cell (p:=⟨w.heap.size,0,none⟩) HBo.out.1).trans HBo.out.2
    clear hb1 h
    go_wp2_with fail
    first | (go_quiet (fail);go_wp2_with fail) | skip
    go_ret2
    rw [HO.out.1,HO.out.2]
    exact ⟨⟨none,0,rfl,CelV.nil _ _ _ (by decide)⟩,by first | exact HB.out | exact below_drewN HB.out _⟩
  ·obtain ⟨dm,rfl⟩:∃ dm:Nat,dim=dm:=⟨dim.toNat,by omega⟩
   have hdmn:dm<n:=by omega
   have HO:Hid (onceErr D n L (dm:Int)=0∧onceR D n L (dm:Int)=onceV D n dm L):=on2 HE.out hdmn
   have hdd:decide ((dm:Int)<0)=false:=decide_eq_false (by omega)
   have hdn:decide ((n:Int)≤(dm:Int))=false:=decide_eq_false (by omega)
   have hdi:(dm:Int)<(n:Int):=by omega
   have HBo:Hid (w.heap.size<(ownOut w A0 n cap 24).heap.size∧(ownOut w A0 n cap 24).cell? ⟨w.heap.size,0,none⟩=some (.slice A0 n cap)):=⟨by rw [ownOut_size];omega,ownOut_at ..⟩
   obtain ⟨hk1,hk2⟩:=HD.out dm hdmn
   clear hdm
   go_enter Tryz.func40,Tryz.ntmps40
   go_wp2_with fail
   refine h.mono ?_
   rintro e w1 ⟨rfl,hb1⟩
   have hB:Below w.heap.size w w1:=onB HB0.out hb1
   have HB:Hid (Below w.heap.size w w1):=hB
   have HBox:Hid (BoxN w1 w.heap.size (.slice A0 n cap)):=⟨Nat.lt_of_lt_of_le HBo.out.1 hb1.size,(hb1.cell (p:=⟨w.heap.size,0,none⟩) HBo.out.1).trans HBo.out.2⟩
   have c1:=HBox.out.2
   obtain ⟨hcap,h0 | ⟨b,o,rfl,hMs⟩⟩:=HM.out.later hB
   ·omega
   have HMs:Hid (DimsAt w1 b o n D A C):=hMs
   obtain ⟨hcc,hcc3,h0 | ⟨bc,oc,rfl,hCA⟩⟩:=HLv.out.later hB
   ·have:=HN.out;rw [h0] at this;simp at this;omega
   have hcl:=cclone_any bc oc cc L w1 (by rw [HN.out];exact hL0) (by rw [HN.out];exact hL3) hCA
   rw [HN.out] at hcl hcc
   clear hb1 h hMs hB hCA
   go_wp2_with fail
   first | (go_quiet (fail);go_wp2_with fail) | skip
   refine hcl.mono ?_
   rintro e w2 ⟨⟨g,c',rfl,hg,hc1,hc2,hCB⟩,hb2⟩
   have HB2:Hid (Below w1.heap.size w1 w2):=hb2
   have HCB:Hid (CelB w2 g L):=hCB
   have HBox2:Hid (BoxN w2 w.heap.size (.slice (some ⟨b,o,none⟩) n cap)):=HBox.out.later hb2
   have HMs2:Hid (DimsAt w2 b o n D A C):=HMs.out.later hb2
   obtain ⟨d0,d1,d2,-⟩:=HMs2.out.2 dm hdmn
   have c2:=HBox2.out.2
   have hwg:w.heap.size<g:=Nat.lt_of_lt_of_le HBox.out.1 hg
   have hbz:=HMs2.out.1
   have HLt:Hid (g<w2.heap.size):=hCB.lt
   obtain ⟨dn,hdn'⟩:∃ dn,(D dm).n=dn:=⟨_,rfl⟩
   have HDN:Hid ((D dm).n=dn):=hdn'
   rw [hdn'] at d2 hk1 hk2
   have hdn1:(1:Int)≤(dn:Int):=by omega
   have hdn2:(dn:Int)≤12:=by omega
   clear hcl hb2 hCB hdn' d0 d1 c1
   go_wp2_with fail
   clear d2 c2
   go_loopg [10] dn (fun gg s10 wr => ∃ (r:Nat),r≤dn∧gg=dn-r∧s10=.int .i64 ((dn:Int)-1-(r:Int))∧Hid (CelB wr g (onceTo D n dm L r))∧Hid (w2.grownBy wr (some g)))
   case atStart=>exact ⟨0,Nat.zero_le _,rfl,by simp,HCB,grown_refl w2 (some g)⟩
   case round =>
    obtain ⟨r,hr,rfl,rfl,HC,HG⟩:=hrel
    have hB1:Below w1.heap.size w1 wr:=HB2.out.grown HG.out HB2.out.size (fun j hj=>by cases hj;exact hg)
    have HB1:Hid (Below w1.heap.size w1 wr):=hB1
    have HBr:Hid (BoxN wr w.heap.size (.slice (some ⟨b,o,none⟩) n cap)):=boxn_other HBox2.out (by omega) HG.out
    have cr:=HBr.out.2
    by_cases hlt:r<dn
    ·obtain ⟨mm,hmm⟩:∃ mm:Nat,(dn:Int)-1-(r:Int)=mm:=⟨dn-1-r,by omega⟩
     have HMM:Hid (mm=(D dm).n-1-r):=by show _=_;rw [HDN.out];omega
     have HMm:Hid ((dn:Int)-1-(r:Int)=mm):=hmm
     have hf:=fmem_any b o cap n dm mm g c' D A C (onceTo D n dm L r) w1 wr HR.out hdmn hcap (by rw [HDN.out];omega) (by rw [once_len];exact HLN.out) (by rw [once_len,HN.out];exact hc1) hc2 (once_good HGd.out r) HMs.out hB1 hg HC.out
     rw [once_len,HN.out] at hf
     have hge:decide (0≤(mm:Int))=true:=decide_eq_true (by omega)
     have hm12:(mm:Int)≤12:=by omega
     have HNx:Hid (onceTo D n dm L (r+1)=mbrV D n dm mm (onceTo D n dm L r)):=by show _=_;rw [once_next,←HMM.out]
     rw [hmm]
     clear hB1 hmm
     go_wp2_with fail
     refine hf.mono ?_
     rintro e w3 ⟨rfl,hC3,hG3⟩
     have HC3:Hid (CelB w3 g (onceTo D n dm L (r+1))):=by show CelB _ _ _;rw [HNx.out];exact hC3
     have HG3:Hid (w2.grownBy w3 (some g)):=grown_trans HG.out hG3
     clear hC3 hG3 hf
     go_wp2_with fail
     go_roundg (dn-(r+1))
     case measure=>omega
     case rel=>exact ⟨r+1,by omega,rfl,by have:=HMm.out;congr 1;omega,HC3,HG3⟩
    ·have hre:r=dn:=by omega
     subst hre
     have hge:decide (0≤(r:Int)-1-(r:Int))=false:=decide_eq_false (by omega)
     have HV:Hid (onceV D n dm L=onceTo D n dm L r):=by show _=_;unfold onceV;rw [HDN.out]
     have HVL:Hid ((onceTo D n dm L r).length=N):=by show _=_;rw [once_len];exact HN.out
     clear hB1
     go_wp2_with fail
     go_ret2
     rw [HO.out.1,HO.out.2,HV.out,HVL.out]
     exact ⟨⟨_,c',rfl,by rw [HVL.out];exact hc1,hc2,Or.inr ⟨g,0,rfl,HC.out.celAt⟩⟩,onB HB.out HB1.out⟩
 ·obtain ⟨h1,h2⟩:=on0 (dim:=dim) he
  have HO:Hid (onceErr D n L dim=chkErr D n L∧onceR D n L dim=[]):=⟨h1,h2⟩
  have HE:Hid (errV (chkErr D n L)=.iface 95 (.int .i64 (chkErr D n L))):=errV_some he
  rw [errV_some he] at h
  clear h1 h2 he
  generalize chkErr D n L=ce at h HE HO
  generalize L.length=N at h
  go_enter Tryz.func40,Tryz.ntmps40
  go_wp2_with fail
  refine h.mono ?_
  rintro e w1 ⟨rfl,hb1⟩
  have HB:Hid (Below w.heap.size w w1):=onB HB0.out hb1
  clear hb1 h
  go_wp2_with fail
  go_ret2
  rw [HO.out.1,HO.out.2,HE.out]
  exact ⟨⟨none,0,rfl,CelV.nil _ _ _ (by decide)⟩,HB.out⟩
theorem wrs_good {D:Nat→Dm} {n:Nat}:∀ (l:List En) (L:List (Int×Int)),(∀ e∈l,numOk e.n=true)→goodL L→goodL (l.foldl (wrStep D n) L)
 | [],_,_,h=>h
 | e :: r,_,hl,h=>wrs_good r _ (fun x hx=>hl x (List.mem_cons_of_mem _ hx)) (goodL_set h _ (goodC_num (hl e (List.mem_cons_self ..))))
theorem wrV_good {D:Nat→Dm} {n:Nat} {l:List En} (h:Ens D n l):goodL (wrV D n l) :=
 wrs_good l _ (fun e he=>(h.each e he).2.2) (fun c hc=>by rw [List.eq_of_mem_replicate hc];exact good_zero)
def fcL (D:Nat→Dm) (n:Nat) (l:List En):List (Int×Int):=if entsErr D n l=0 then wrV D n l else []
theorem fc_ok {D:Nat→Dm} {n:Nat} {l:List En} (h:entsErr D n l=0):fcL D n l=wrV D n l:=by unfold fcL;rw [if_pos h]
theorem fc_bad {D:Nat→Dm} {n:Nat} {l:List En} (h:entsErr D n l≠0):fcL D n l=[]:=by unfold fcL;rw [if_neg h]
set_option maxHeartbeats 8000000 in
theorem fcells_any (A0:Option Addr) (cap n:Nat) (D:Nat→Dm) (A:Nat→Option Addr) (C:Nat→Nat) (AE:Option Addr) (ce:Nat) (xs:List EnL) (w:World) (hM:DimsV w A0 cap n D A C) (hE:EnsV w AE ce xs) :
  Calls Tryz.prog 27 #[.agg #[.slice A0 n cap],.slice AE xs.length ce] w fun e w'=>(∃ A' c',e=.returned (.tuple #[.slice A' (fcL D n (lE xs)).length c',errV (entsErr D n (lE xs))])∧CelV w' A' c' (fcL D n (lE xs)))∧Below w.heap.size w w':=by
 have hB0:=ownOut_below w A0 n cap 24
 have h:=icheck_any A0 cap n D A C AE ce xs (ownOut w A0 n cap 24) (hM.later hB0) (hE.later hB0)
 have HB0:Hid (Below w.heap.size w (ownOut w A0 n cap 24)):=hB0
 have HM:Hid (DimsV w A0 cap n D A C):=hM
 have HE:Hid (EnsV w AE ce xs):=hE
 clear hM hE hB0
 by_cases he:entsErr D n (lE xs)=0
 ·have hEs:=ens_of he
  have HEs:Hid (Ens D n (lE xs)):=hEs
  have hfew:xs.length≤3000:=by have:=hEs.few;rw [lE_len] at this;exact this
  have hR:=hEs.right
  have HR:Hid ((allErr D n).2.2=0):=hR
  obtain ⟨hn1,hn4,hp3,hd⟩:=allErr_some hR
  have HF:Hid (fcL D n (lE xs)=wrV D n (lE xs)∧errV (entsErr D n (lE xs))=.nilIface):=⟨fc_ok he,by rw [he];rfl⟩
  rw [he,errV_zero] at h
  have HBo:Hid (w.heap.size<(ownOut w A0 n cap 24).heap.size∧(ownOut w A0 n cap 24).cell? ⟨w.heap.size,0,none⟩=some (.slice A0 n cap)):=⟨by rw [ownOut_size];omega,ownOut_at ..⟩
  obtain ⟨N,hN⟩:∃ N,xs.length=N:=⟨_,rfl⟩
  have HN:Hid (xs.length=N):=hN
  rw [hN] at h hfew ⊢
  have hN':(N:Int)≤3000:=by omega
  obtain ⟨PN,hPN⟩:∃ PN,prodN D n=PN:=⟨_,rfl⟩
  have HPN:Hid (prodN D n=PN):=hPN
  rw [hPN] at hp3
  have hmk:=run_make_cells PN hp3
  have hPN':(PN:Int)≤3000:=by omega
  have HWE:Hid (((lE xs).take N).foldl (wrStep D n) (List.replicate PN (0,0))=wrV D n (lE xs)):=by show _=_;rw [List.take_of_length_le (by rw [lE_len,hN];exact Nat.le_refl _),←hPN];rfl
  clear he hEs hR hd hN hPN
  go_enter Tryz.func27,Tryz.ntmps27
  go_wp2_with fail
  refine h.mono ?_
  rintro e w1 ⟨rfl,hb1⟩
  have hB:Below w.heap.size w w1:=onB HB0.out hb1
  have HB:Hid (Below w.heap.size w w1):=hB
  have HBox:Hid (BoxN w1 w.heap.size (.slice A0 n cap)):=⟨Nat.lt_of_lt_of_le HBo.out.1 hb1.size,(hb1.cell (p:=⟨w.heap.size,0,none⟩) HBo.out.1).trans HBo.out.2⟩
  have c1:=HBox.out.2
  have hpc:=pcells_any A0 cap n D A C w1 (HM.out.later hB)
  have hcv:cellsV D n=(PN:Int):=by unfold cellsV;rw [if_pos HR.out,HPN.out]
  rw [HR.out,errV_zero,hcv] at hpc
  clear hb1 h hB hcv
  go_wp2_with fail
  refine hpc.mono ?_
  rintro e w2 ⟨rfl,hb2⟩
  have HB2:Hid (Below w.heap.size w w2):=onB HB.out hb2
  have HBox2:Hid (BoxN w2 w.heap.size (.slice A0 n cap)):=HBox.out.later hb2
  obtain ⟨v2,hv2⟩:∃ v,w2.alloc (.cells (madeCells #[.int .i64 0,.int .i64 0] (PN*2)) 54)=v:=⟨_,rfl⟩
  have hBv:Below w2.heap.size w2 v2:=by rw [←hv2];go_grown
  have HBv:Hid (Below w2.heap.size w2 v2):=hBv
  have HCv:Hid (CelB v2 w2.heap.size (List.replicate PN (0,0))):=by rw [←hv2];exact celB_made w2 PN
  have HBoxv:Hid (BoxN v2 w.heap.size (.slice A0 n cap)):=HBox2.out.later hBv
  have hwz:w.heap.size<w2.heap.size:=HBox2.out.1
  clear hpc hb2 c1 hBv
  go_wp2_with fail
  clear hmk hv2
  go_loopg [32] N (fun gg s32 wr => ∃ (k:Nat),k≤N∧gg=N-k∧s32=.int .i64 k∧Hid (CelB wr w2.heap.size (((lE xs).take k).foldl (wrStep D n) (List.replicate PN (0,0))))∧Hid (v2.grownBy wr (some w2.heap.size)))
  case atStart=>exact ⟨0,Nat.zero_le _,rfl,rfl,HCv,grown_refl v2 _⟩
  case round =>
   obtain ⟨k,hk,rfl,rfl,HC,HG⟩:=hrel
   have hB2r:Below w2.heap.size w2 wr:=HBv.out.grown HG.out HBv.out.size (fun j hj=>by cases hj;exact Nat.le_refl _)
   have HB2r:Hid (Below w2.heap.size w2 wr):=hB2r
   have HBr:Hid (Below w.heap.size w wr):=onB HB2.out hB2r
   by_cases hlt:k<N
   ·have hkx:k<xs.length:=by rw [HN.out];exact hlt
    have hki:(k:Int)<(N:Int):=by omega
    obtain ⟨-,-,h0 | ⟨bb,oo,rfl,hA⟩⟩:=HE.out.later HBr.out
    ·have:=HN.out;rw [h0] at this;simp at this;omega
    obtain ⟨c1,c2⟩:=hA.at hkx
    have hmem:(xs.getD k noL).e∈lE xs:=List.mem_map.2 ⟨_,enl_mem hkx,rfl⟩
    obtain ⟨hqI,-,hnum⟩:=HEs.out.each _ hmem
    have hnn : -1000000≤(xs.getD k noL).e.n∧(xs.getD k noL).e.n≤1000000:=by simpa [numOk] using hnum
    obtain ⟨hq1,hq2,-⟩:=numI_bound hqI (Nat.le_refl n)
    have hpl:=hA.pl hkx
    have HWr:=take_wr D n (List.replicate PN (0,0)) xs hkx
    unfold wrStep at HWr
    obtain ⟨X,hX⟩:∃ X:Nat,numI D (xs.getD k noL).e.pl n=X:=⟨(numI D (xs.getD k noL).e.pl n).toNat,by omega⟩
    have hnv:numV D n (xs.getD k noL).e.pl=(X:Int):=by unfold numV;rw [if_pos hqI.ok,hX]
    have hXN:X<PN:=by have:=HPN.out;omega
    have hNum:∀ w',Below wr.heap.size wr w'→_:=fun w' hw'=>pnumber_any A0 cap n D A C (xs.getD k noL).A (xs.getD k noL).c (xs.getD k noL).e.pl w' (HM.out.later (onB HBr.out hw')) (hpl.later hw')
    rw [hnv,hqI.ok,errV_zero] at hNum
    have HNum:Hid (∀ w',Below wr.heap.size wr w'→_):=hNum
    have hof:=fun w'=>of_any (xs.getD k noL).e.n w'
    rw [ofP_in (by omega) (by omega)] at hof
    rw [hX,show ((X:Int)).toNat=X by omega] at HWr
    have HWR:Hid _:=HWr
    obtain ⟨LL,hLL⟩:∃ LL,((lE xs).take k).foldl (wrStep D n) (List.replicate PN (0,0))=LL:=⟨_,rfl⟩
    have hLLn:LL.length=PN:=by rw [←hLL,wrs_len];simp
    have HCL:Hid (CelB wr w2.heap.size LL):=by rw [←hLL];exact HC.out
    have HNx:Hid (((lE xs).take (k+1)).foldl (wrStep D n) (List.replicate PN (0,0))=LL.set X (1,(xs.getD k noL).e.n)):=by
     show _=_
     rw [←hLL]
     exact HWR.out
    have HBxr:Hid (BoxN wr w.heap.size (.slice A0 n cap)):=boxn_other HBoxv.out (by omega) HG.out
    have hXL:X<LL.length:=by omega
    have HXL:Hid (X<LL.length):=hXL
    generalize (xs.getD k noL).A=A1 at c1 HNum
    generalize (xs.getD k noL).c=k1 at c1 HNum
    generalize (xs.getD k noL).e.n=num at c2 hnn hof HNx
    generalize (xs.getD k noL).e.pl.length=m1 at c1 HNum
    have hcr:=HBxr.out.2
    have hXi:(X:Int)<(PN:Int):=by omega
    obtain ⟨y,hy⟩:∃ y,wr.alloc (.cells #[.slice A1 m1 k1,.int .i64 num] 63)=y:=⟨_,rfl⟩
    have hBy:Below wr.heap.size wr y:=by rw [←hy];go_grown
    have HBy:Hid (Below wr.heap.size wr y):=hBy
    have HPy:Hid (y.heap[wr.heap.size]?=some (.cells #[.slice A1 m1 k1,.int .i64 num] 63 (0,0))):=by show _=_;rw [←hy];exact heap_alloc_new ..
    obtain ⟨p0,p1,-,-⟩:=pair_at HPy.out
    have hyo:=(HBxr.out.later hBy).2
    clear hB2r hA hmem hqI hnum hpl HWr hNum hnv hLL hLLn hX hq1 hq2 hBy hXL HWR
    go_wp2_with fail
    refine (HNum.out _ HBy.out).mono ?_
    rintro e w5 ⟨rfl,hb5⟩
    have HB5:Hid (Below y.heap.size y w5):=hb5
    have hwr:wr.heap.size<y.heap.size:=(Array.getElem?_eq_some_iff.1 HPy.out).1
    have hP5:w5.heap[wr.heap.size]?=some (.cells #[.slice A1 m1 k1,.int .i64 num] 63 (0,0)):=(hb5.block _ hwr).trans HPy.out
    obtain ⟨-,s1,-,-⟩:=pair_at hP5
    clear hb5 hP5 p0 p1 hyo
    go_wp2_with fail
    refine (hof _).mono ?_
    rintro e w6 ⟨rfl,hb6⟩
    have hB6:Below wr.heap.size wr w6:=onB (onB HBy.out HB5.out) hb6
    have HC6:Hid (CelB w6 w2.heap.size LL):=HCL.out.later hB6
    obtain ⟨g1,g2⟩:=HC6.out.at HXL.out
    have g3:=HC6.out.frozen (X*2)
    have g4:=HC6.out.frozen (X*2+1)
    have HC7:Hid (CelB ((w6.setCell ⟨w2.heap.size,X*2,none⟩ (.int .i64 1)).setCell ⟨w2.heap.size,X*2+1,none⟩ (.int .i64 num)) w2.heap.size (((lE xs).take (k+1)).foldl (wrStep D n) (List.replicate PN (0,0)))):=by show CelB _ _ _;rw [HNx.out];exact HC6.out.set HXL.out 1 num
    have HG7:Hid (v2.grownBy ((w6.setCell ⟨w2.heap.size,X*2,none⟩ (.int .i64 1)).setCell ⟨w2.heap.size,X*2+1,none⟩ (.int .i64 num)) (some w2.heap.size)):=cel_grown (grown_then HG.out hB6)
    clear hb6 hB6 hof s1
    go_wp2_with fail
    go_roundg (N-(k+1))
    case measure=>omega
    case rel=>exact ⟨k+1,by omega,rfl,by go_num,HC7,HG7⟩
   ·have hke:k=N:=by omega
    subst hke
    have HV:Hid (CelB wr w2.heap.size (wrV D n (lE xs))):=by rw [←HWE.out];exact HC.out
    have HVL:Hid ((wrV D n (lE xs)).length=PN):=by show _=_;rw [wrV_len];exact HPN.out
    clear hB2r
    go_wp2_with fail
    go_ret2
    rw [HF.out.1,HF.out.2,HVL.out]
    exact ⟨⟨_,PN,rfl,by rw [HVL.out];exact Nat.le_refl _,by omega,Or.inr ⟨_,0,rfl,HV.out.celAt⟩⟩,HBr.out⟩
 ·have HF:Hid (fcL D n (lE xs)=[]):=fc_bad he
  have HEr:Hid (errV (entsErr D n (lE xs))=.iface 95 (.int .i64 (entsErr D n (lE xs)))):=errV_some he
  rw [errV_some he] at h
  clear he
  generalize entsErr D n (lE xs)=ee at h HEr
  generalize xs.length=N at h
  go_enter Tryz.func27,Tryz.ntmps27
  go_wp2_with fail
  refine h.mono ?_
  rintro e w1 ⟨rfl,hb1⟩
  have HB:Hid (Below w.heap.size w w1):=onB HB0.out hb1
  clear hb1 h
  go_wp2_with fail
  go_ret2
  rw [HF.out,HEr.out]
  exact ⟨⟨none,0,rfl,CelV.nil _ _ _ (by decide)⟩,HB.out⟩
end Go.Proofs.YtfgegmpoejilnaaGreatDoor
namespace Go.Proofs.YtfgegmpoejilnaaGreatDoor
def rollStep (D:Nat→Dm) (n:Nat) (p:List Int) (c:Int×Int) (e:En):Int×Int:=if cntR D n p e=true then (1,c.2+valR D n p e) else c
theorem roll_steps (D:Nat→Dm) (n:Nat) (p:List Int) (l:List En):∀ c:Int×Int,l.foldl (rollStep D n p) c=(if l.any (cntR D n p)=true then 1 else c.1,c.2+rollN D n p l):=by
 induction l with
 | nil=>intro c;simp [rollN]
 | cons e r ih =>
  intro c
  rw [List.foldl_cons,ih,rollStep,rollN,List.any_cons]
  by_cases h:cntR D n p e=true
  ·simp only [h,Bool.true_or,if_true]
   refine Prod.ext ?_ (by simp only;omega)
   simp only
   split <;> rfl
  ·simp only [h,Bool.false_eq_true,if_false] at *
   simp
theorem roll_fold (D:Nat→Dm) (n:Nat) (l:List En) (p:List Int):l.foldl (rollStep D n p) (0,0)=rollV D n l p:=by
 rw [roll_steps]
 unfold rollV rollK
 simp
def lfs (D:Nat→Dm) (p:List Int) (i:Nat):List Int:=leafsOf (D i).mem (D i).n (p.getD i 0)
def cnts (d:Dm) (i:Int) (X:List Int):List Int:=(List.range d.n).map fun (k:Nat)=>if (k:Int)∈X then weightOf d.mem i (k:Int) else 0
theorem cnts_len (d:Dm) (i:Int) (X:List Int):(cnts d i X).length=d.n:=by simp [cnts]
theorem cnts_nil (d:Dm) (i:Int):cnts d i []=List.replicate d.n 0:=by
 apply List.ext_getElem
 ·simp [cnts]
 ·intro j h1 h2;simp [cnts]
theorem cnts_at {d:Dm} {i:Int} {X:List Int} {k:Nat} (hk:k<d.n):(cnts d i X).getD k 0=if (k:Int)∈X then weightOf d.mem i k else 0:=by
 simp [cnts,List.getD,hk]
theorem cnts_set {d:Dm} {i:Int} {X:List Int} {k:Nat}:(cnts d i X).set k (weightOf d.mem i k)=cnts d i (X ++ [(k:Int)]):=by
 apply List.ext_getElem
 ·simp [cnts]
 ·intro j h1 h2
  rw [List.getElem_set]
  by_cases e:k=j
  ·subst e;simp [cnts]
  ·have e' : ¬ ((j:Int)=(k:Int)):=by omega
   rw [if_neg e];simp [cnts,e']
theorem lfs_mem {D:Nat→Dm} {p:List Int} {i:Nat}:∀ j∈lfs D p i,∃ m:Nat,j=m∧m<(D i).n∧leafIn (D i).mem (D i).n (p.getD i 0) m=true:=selTo_mem
theorem lfs_len (D:Nat→Dm) (p:List Int) (i:Nat):(lfs D p i).length≤(D i).n:=selTo_len _ _
def wts (D:Nat→Dm) (p:List Int) (i:Nat):List Int:=cnts (D i) (p.getD i 0) (lfs D p i)
theorem wts_at {D:Nat→Dm} {p:List Int} {i k:Nat} (hk:k<(D i).n) (hl:leafB (D i).mem (D i).n k=true):(wts D p i).getD k 0=weightOf (D i).mem (p.getD i 0) k:=by
 unfold wts
 rw [cnts_at hk]
 by_cases h:(k:Int)∈lfs D p i
 ·rw [if_pos h]
 ·rw [if_neg h]
  have h1:inB (pathOf (D i).mem k) (p.getD i 0)=false:=by
   cases hb:inB (pathOf (D i).mem k) (p.getD i 0)
   ·rfl
   ·exact absurd (sel_in hk (by unfold leafIn;rw [hl,hb];rfl)) h
  have h2:p.getD i 0∉pathOf (D i).mem k:=by unfold inB at h1;exact of_decide_eq_false h1
  rw [weightOf,wgt_out _ h2]
theorem wts_small {D:Nat→Dm} {n:Nat} (hR:(allErr D n).2.2=0) (p:List Int) {i:Nat} (hi:i<n) (k:Nat) : -1≤(wts D p i).getD k 0∧(wts D p i).getD k 0≤1:=by
 by_cases hk:k<(D i).n
 ·unfold wts
  rw [cnts_at hk]
  split
  ·have hd:=(allErr_right hR).2 i hi
   refine wgt_small (Sg.of hd) _ _ (fun j hj=>?_) 1 (by omega)
   have:=pathOf_mem (Tr.of hd) (D i).n k (by omega) (by omega) j hj
   omega
  ·omega
 ·have:(wts D p i).getD k 0=0:=by unfold wts;rw [List.getD_eq_getElem?_getD,List.getElem?_eq_none (by rw [cnts_len];omega)];rfl
  rw [this];omega
def prTo (R:Nat→List Int) (q:List Int):Nat→Int
 | 0=>1
 | k+1=>prTo R q k*(R k).getD (q.getD k 0).toNat 0
theorem pr_wts {D:Nat→Dm} {n:Nat} {q:List Int} (hq:InO D n q) (hl:leafV D n q=true) (p:List Int):∀ k,k≤n→prTo (wts D p) q k=pwTo D p q k
 | 0,_=>rfl
 | k+1,hk=>by
  have hlo:=hq.lo k (by omega)
  have hhi:=hq.hi k (by omega)
  rw [prTo,pwTo,pr_wts hq hl p k (by omega),wts_at (by omega) (leaf_each hl k (by omega)),show ((q.getD k 0).toNat:Int)=q.getD k 0 by omega]
theorem prTo_small {D:Nat→Dm} {n:Nat} (hR:(allErr D n).2.2=0) (p q:List Int):∀ k,k≤n→-1≤prTo (wts D p) q k∧prTo (wts D p) q k≤1
 | 0,_=>by simp [prTo]
 | k+1,hk=>by
  rw [prTo]
  exact small_mul (prTo_small hR p q k (by omega)) (wts_small hR p (by omega) _)
theorem roll_none {D:Nat→Dm} {n:Nat} {p:List Int}:∀ {l:List En},l.any (cntR D n p)=false→rollN D n p l=0
 | [],_=>rfl
 | e :: r,h=>by
  rw [List.any_cons,Bool.or_eq_false_iff] at h
  rw [rollN,roll_none h.2,if_neg (by rw [h.1];simp)]
  rfl
end Go.Proofs.YtfgegmpoejilnaaGreatDoor
namespace Go.Proofs.YtfgegmpoejilnaaGreatDoor
open Go.ChangeShapes Go.WideShapes Go.ChangeAt Go.RowKit
theorem At.new (k n:Int) (w:World) (T:Nat):At w.heap.size k n (w.alloc (.cells #[.int .i64 k,.int .i64 n] T)):=⟨by simp,by simp,by simp⟩
theorem At.set {s:Nat} {k n:Int} {w:World} {u v:Value} (hs:s<w.heap.size) (h0:w.cell? ⟨s,0,none⟩=some u) (h1:w.cell? ⟨s,1,none⟩=some v):At s k n ((w.setCell ⟨s,0,none⟩ (.int .i64 k)).setCell ⟨s,1,none⟩ (.int .i64 n)):=by
 refine ⟨by simpa using hs,?_,?_⟩ <;> simp [go_sem,h0,h1]
end Go.Proofs.YtfgegmpoejilnaaGreatDoor
namespace Go.Proofs.YtfgegmpoejilnaaGreatDoor
open Go.ChangeShapes Go.WideShapes Go.ChangeAt Go.RowKit
set_option maxRecDepth 20000
def BolB (w:World) (g n:Nat) (f:Nat→Bool):Prop:=w.heap[g]?=some (.cells ((List.range n).map fun j=>Value.bool (f j)).toArray 4 (0,0))
theorem BolB.lt {w:World} {g n:Nat} {f:Nat→Bool} (h:BolB w g n f):g<w.heap.size:=(Array.getElem?_eq_some_iff.1 h).1
theorem BolB.cell {w:World} {g n:Nat} {f:Nat→Bool} (h:BolB w g n f) {j:Nat} (hj:j<n):w.cell? ⟨g,j,none⟩=some (.bool (f j)):=by
 rw [Lib.cell_of_heap h]
 simp [hj]
theorem BolB.frozen {w:World} {g n:Nat} {f:Nat→Bool} (h:BolB w g n f) (j:Nat):w.frozen? ⟨g,j,none⟩=false:=Lib.frozen_of_heap h j
theorem BolB.later {w w':World} {g n:Nat} {f:Nat→Bool} (h:BolB w g n f) (hB:Below w.heap.size w w'):BolB w' g n f:=(hB.block g h.lt).trans h
theorem BolB.set {w:World} {g n:Nat} {f f':Nat→Bool} (h:BolB w g n f) {m:Nat} (hf:∀ j,j<n→f' j=if j=m then true else f j):BolB (w.setCell ⟨g,m,none⟩ (.bool true)) g n f':=by
 unfold BolB at *
 simp only [World.setCell,Array.getElem?_modify,if_true,h,Option.map_some,Option.some.injEq,Obj.cells.injEq,and_true,Option.isSome_none,Bool.false_eq_true,if_false]
 apply Array.ext_getElem?
 intro j
 rw [Array.getElem?_setIfInBounds]
 by_cases hj:j<n
 ·by_cases e:m=j
  ·rw [if_pos e,if_pos (by simp;omega)]
   simp [hj,hf j hj,e]
  ·have e':j≠m:=fun x=>e x.symm
   rw [if_neg e]
   simp only [List.getElem?_toArray,List.getElem?_map,List.getElem?_range hj,Option.map_some,hf j hj,if_neg e']
 ·by_cases e:m=j
  ·rw [if_pos e,if_neg (by simp;omega),Array.getElem?_eq_none (by simp;omega)]
  ·rw [if_neg e,Array.getElem?_eq_none (by simp;omega),Array.getElem?_eq_none (by simp;omega)]
theorem BolB.made (w:World) (n:Nat):BolB (w.alloc (.cells (madeCells #[.bool false] n) 4)) w.heap.size n fun _=>false:=by
 unfold BolB
 have e:madeCells #[.bool false] n=((List.range n).map fun _=>Value.bool false).toArray:=by
  apply Array.ext
  ·simp [madeCells]
  ·intro i h1 h2
   simp [madeCells,Nat.mod_one]
 rw [e]
 exact heap_alloc_new w _
theorem below_set {B:Nat} {w0 w:World} {g j:Nat} {v:Value} (h:Below B w0 w) (hg:B≤g):Below B w0 (w.setCell ⟨g,j,none⟩ v):=by
 refine ⟨h.os,h.tape,h.output,by simpa [World.setCell] using h.size,fun k hk=>?_⟩
 rw [←h.block k hk]
 simp only [World.setCell,Array.getElem?_modify]
 rw [if_neg (by omega)]
theorem Tryz.infoBol:(Tryz.prog.info? 4).map (fun i=>(i.zero,i.size,i.bytes))=some (some (.bool false),1,1):=by kernel_rfl
end Go.Proofs.YtfgegmpoejilnaaGreatDoor
namespace Go.Proofs.YtfgegmpoejilnaaGreatDoor
theorem set_last {l:List En} {p:List Int} (h:∀ e∈l,lessL e.pl p=true) (x:Int):setL l p x=l ++ [⟨p,x⟩]:=by
 have hw:l.takeWhile (fun e=>lessL e.pl p)=l:=by
  induction l with
  | nil=>rfl
  | cons e r ih=>rw [List.takeWhile_cons,if_pos (h e (List.mem_cons_self ..)),ih fun y hy=>h y (List.mem_cons_of_mem _ hy)]
 have hc:cntE l p=l.length:=by unfold cntE;rw [hw]
 have hh:hasE l p=false:=by unfold hasE;rw [hc,List.drop_length]
 unfold setL
 rw [hh,hc]
 simp
end Go.Proofs.YtfgegmpoejilnaaGreatDoor
namespace Go.Proofs.YtfgegmpoejilnaaGreatDoor
open Go.ChangeShapes Go.WideShapes Go.ChangeAt Go.RowKit
theorem eachO {w:World} {o:Obj} {k:Nat} {x:Obj} (h:w.heap[k]?=some x):(w.alloc o).heap[k]?=some x:=by
 rw [heap_alloc_old _ _ (Array.getElem?_eq_some_iff.1 h).1]
 exact h
theorem eachN {w:World} {cs:Array Value} {t k:Nat} (h:w.heap.size=k):(w.alloc (.cells cs t)).heap[k]?=some (.cells cs t (0,0)):=by
 subst h
 exact heap_alloc_new ..
end Go.Proofs.YtfgegmpoejilnaaGreatDoor
