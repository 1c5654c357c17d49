/-
  What package tree tells, as plain functions on plain data: the path of a member, its parts, its leafs, how a leaf counts in a member, how long paths are; and small facts on them.
-/
import Derived.LaidEql
import Derived.Stop.Asserts
import Derived.RowKitTokens
import Derived.SizedLaws
import Derived.Test.YtfngmnhkhfgmjahGreatDoorJBBJ
namespace Go.Proofs.YtfngmnhkhfgmjahGreatDoor
theorem pathOf_len {M:Nat→Mem} {n:Nat} (ht:Tr M n) (k:Nat):∀ i:Int,i<n→i<k→(pathOf M i).length≤k:=by
 induction k with
 | zero=>intro i _ h;rw [pathOf_neg (by omega)];exact Nat.le_refl _
 | succ k ih =>
  intro i h1 h2
  by_cases h0:i<0
  ·rw [pathOf_neg h0];exact Nat.zero_le _
  ·obtain ⟨j,rfl⟩:∃ j:Nat,i=j:=⟨i.toNat,by omega⟩
   have:=ht j (by omega)
   rw [pathOf_cons ht (by omega),List.length_cons]
   have:=ih (M j).parent (by omega) (by omega)
   omega
def leafIn (M:Nat→Mem) (n:Nat) (i:Int) (k:Nat):Bool:=leafB M n k && inB (pathOf M k) i
def leafsOf (M:Nat→Mem) (n:Nat) (i:Int):List Int:=selTo (leafIn M n i) n
theorem treeErr_two {d:Dm} {i j:Int} (h:(dimErr d).2=0):treeErr d [i,j]=if i<0∨(d.n:Int)≤i∨j<0∨(d.n:Int)≤j then 1 else 0:=by
 unfold treeErr rangeErr;rw [if_neg (by simpa using h)]
 by_cases h1:i<0∨(d.n:Int)≤i
 ·have e:i<0∨(d.n:Int)≤i∨j<0∨(d.n:Int)≤j:=by omega
  rw [if_pos e];simp [findFrom,h1]
 ·by_cases h2:j<0∨(d.n:Int)≤j
  ·have e:i<0∨(d.n:Int)≤i∨j<0∨(d.n:Int)≤j:=by omega
   rw [if_pos e];simp [findFrom,h1,h2]
  ·have e : ¬ (i<0∨(d.n:Int)≤i∨j<0∨(d.n:Int)≤j):=by omega
   rw [if_neg e];simp [findFrom,h1,h2]
end Go.Proofs.YtfngmnhkhfgmjahGreatDoor
namespace Go.Proofs.YtfngmnhkhfgmjahGreatDoor
open Go Go.ChangeShapes Go.WideShapes Go.ChangeAt Go.RowKit Go.Deep
set_option maxRecDepth 100000
section
variable {H:Type} {enc:TypeId×Value→H} {w:World} {held:Bool}
theorem trod_one {P:Program} {base:Nat} {sp:Nat→Bool} {t:TypeId} {fs:Array Field} {fuel:Nat} {cs:List Value} {x:DataW H×List MemPlace} (ht:P.underlying t=some (.struct fs)) (hone:oneCellFields P fs=true) (h:DataW.trod enc P w base sp held fuel t cs=some x) :
  cs.length=P.cellsOf t∧∃ n,∀ (i:Nat) (f:Field) (v:Value),fs[i]?=some f→cs[i]?=some v→∃ y,DataW.trod enc P w base sp held n f.type [v]=some y:=by
 obtain ⟨xs,n,_,_,hl,hxs,hf⟩:=DataW.trod_struct ht h
 refine ⟨hl,n,fun i f v hi hv=>?_⟩
 obtain ⟨ho,hc⟩:=hone_of hone i f hi
 have hlt:i<fs.size:=(Array.getElem?_eq_some_iff.1 hi).1
 have e:=hf i f hi
 rw [ho,hc] at e
 obtain ⟨hi',hv'⟩:=List.getElem?_eq_some_iff.1 hv
 have ed:(cs.drop i).take 1=[v]:=by rw [List.drop_eq_getElem_cons hi',hv'];rfl
 rw [ed,List.getElem?_eq_getElem (by omega)] at e
 exact ⟨_,e⟩
theorem cellsM:Tryz.prog.cellsOf 65=4:=by kernel_rfl
theorem cellsD:Tryz.prog.cellsOf 63=3:=by kernel_rfl
theorem cellsO:Tryz.prog.cellsOf 30=1:=by kernel_rfl
theorem open_member {base:Nat} {sp:Nat→Bool} {fuel:Nat} {cs:List Value} {x:DataW H×List MemPlace} (h:DataW.trod enc Tryz.prog w base sp held fuel 65 cs=some x) :
  ∃ m:Mem,cs=[.string m.name,.int .i64 m.parent,.int .i64 m.sign,.string m.formula]:=by
 obtain ⟨hl,n,hf⟩:=trod_one Tryz.underlying65 (by kernel_rfl) h
 rw [cellsM] at hl
 match cs,hl with
 | [v0,v1,v2,v3],_ =>
  obtain ⟨y0,h0⟩:=hf 0 _ v0 rfl rfl
  obtain ⟨y1,h1⟩:=hf 1 _ v1 rfl rfl
  obtain ⟨y2,h2⟩:=hf 2 _ v2 rfl rfl
  obtain ⟨y3,h3⟩:=hf 3 _ v3 rfl rfl
  obtain ⟨s0,e0,-,-⟩:=DataW.trod_string Tryz.underlying9 h0
  obtain ⟨n1,e1,-,-⟩:=DataW.trod_int Tryz.underlying3 h1
  obtain ⟨n2,e2,-,-⟩:=DataW.trod_int Tryz.underlying3 h2
  obtain ⟨s3,e3,-,-⟩:=DataW.trod_string Tryz.underlying9 h3
  simp at e0 e1 e2 e3
  exact ⟨⟨s0,n1,n2,s3⟩,by rw [e0,e1,e2,e3]⟩
theorem open_members {fuel:Nat} {cs:List Value} {x:DataW H×List MemPlace} (h:DataW.trod enc Tryz.prog w 0 (fun _=>true) held fuel 61 cs=some x) :
  ∃ (A:Option Addr) (cap n:Nat) (M:Nat→Mem),cs=[.slice A n cap]∧MemsV w A cap n M:=by
 rcases open_slice Tryz.underlying61 h with ⟨rfl,-⟩ | ⟨a,len,cap,m,n,D,Pl,rfl,-,hl,-,hm,-,hx⟩
 ·exact ⟨none,0,0,fun _=>⟨default,0,0,default⟩,rfl,Nat.le_refl _,Or.inl rfl⟩
 rw [cellsM] at hx
 simp at hm
 subst hm
 haveI:Inhabited Mem:=⟨⟨default,0,0,default⟩⟩
 have each:∀ i,i<len→∃ y:Mem,w.cells? 0 (a.add (i*4)) 4=some [.string y.name,.int .i64 y.parent,.int .i64 y.sign,.string y.formula]:=fun i hi=>by
  obtain ⟨cs',h1,h2⟩:=hx i (by omega)
  obtain ⟨y,rfl⟩:=open_member h2
  exact ⟨y,h1⟩
 obtain ⟨M,hM⟩:=choose_lt each
 refine ⟨some a,_,len,M,rfl,hl,?_⟩
 rcases Nat.eq_zero_or_pos len with h0 | h0
 ·exact Or.inl h0
 right
 have c0:=(World.cells?_some (hM 0 h0)).2.2 0 (by omega)
 rw [add_add] at c0
 have hp:=addr_plain c0 (by omega)
 have hb:=World.block_lt_of_cell? _ _ c0
 refine ⟨a.block,a.off,by rw [←hp],by simpa [Addr.add] using hb,fun i hi=>?_⟩
 have hc:=(World.cells?_some (hM i hi)).2.2
 rw [hp] at hc
 simp only [plain_add,Nat.add_assoc] at hc
 refine ⟨?_,?_,?_,?_⟩
 ·have:=hc 0 (by omega);simpa using this
 ·have:=hc 1 (by omega);simpa [Nat.add_assoc] using this
 ·have:=hc 2 (by omega);simpa [Nat.add_assoc] using this
 ·have:=hc 3 (by omega);simpa [Nat.add_assoc] using this
theorem open_dim {fuel:Nat} {cs:List Value} {x:DataW H×List MemPlace} (h:DataW.trod enc Tryz.prog w 0 (fun _=>true) held fuel 63 cs=some x) :
  ∃ (d:Dm) (A:Option Addr) (c:Nat),cs=[.string d.name,.int .i64 d.solve,.slice A d.n c]∧MemsV w A c d.n d.mem:=by
 obtain ⟨hl,n,hf⟩:=trod_one Tryz.underlying63 (by kernel_rfl) h
 rw [cellsD] at hl
 match cs,hl with
 | [v0,v1,v2],_ =>
  obtain ⟨y0,h0⟩:=hf 0 _ v0 rfl rfl
  obtain ⟨y1,h1⟩:=hf 1 _ v1 rfl rfl
  obtain ⟨y2,h2⟩:=hf 2 _ v2 rfl rfl
  obtain ⟨s0,e0,-,-⟩:=DataW.trod_string Tryz.underlying9 h0
  obtain ⟨n1,e1,-,-⟩:=DataW.trod_int Tryz.underlying3 h1
  obtain ⟨A,cap,k,M,e2,hM⟩:=open_members h2
  simp at e0 e1 e2
  exact ⟨⟨s0,n1,k,M⟩,A,cap,by rw [e0,e1,e2],hM⟩
theorem open_dims {fuel:Nat} {cs:List Value} {x:DataW H×List MemPlace} (h:DataW.trod enc Tryz.prog w 0 (fun _=>true) held fuel 28 cs=some x) :
  ∃ (A0:Option Addr) (cap n:Nat) (D:Nat→Dm) (A:Nat→Option Addr) (C:Nat→Nat),cs=[.slice A0 n cap]∧DimsV w A0 cap n D A C:=by
 rcases open_slice Tryz.underlying28 h with ⟨rfl,-⟩ | ⟨a,len,cap,m,n,D,Pl,rfl,-,hl,-,hm,-,hx⟩
 ·exact ⟨none,0,0,fun _=>⟨default,0,0,fun _=>⟨default,0,0,default⟩⟩,fun _=>none,fun _=>0,rfl,Nat.le_refl _,Or.inl rfl⟩
 rw [cellsD] at hx
 simp at hm
 subst hm
 haveI:Inhabited Dm:=⟨⟨default,0,0,fun _=>⟨default,0,0,default⟩⟩⟩
 have each:∀ i,i<len→∃ y:Dm×Option Addr×Nat,w.cells? 0 (a.add (i*3)) 3=some [.string y.1.name,.int .i64 y.1.solve,.slice y.2.1 y.1.n y.2.2]∧MemsV w y.2.1 y.2.2 y.1.n y.1.mem:=fun i hi=>by
  obtain ⟨cs',h1,h2⟩:=hx i (by omega)
  obtain ⟨d,A,c,rfl,hm⟩:=open_dim h2
  exact ⟨(d,A,c),h1,hm⟩
 obtain ⟨Y,hY⟩:=choose_lt each
 refine ⟨some a,_,len,fun i=>(Y i).1,fun i=>(Y i).2.1,fun i=>(Y i).2.2,rfl,hl,?_⟩
 rcases Nat.eq_zero_or_pos len with h0 | h0
 ·exact Or.inl h0
 right
 have c0:=(World.cells?_some (hY 0 h0).1).2.2 0 (by omega)
 rw [add_add] at c0
 have hp:=addr_plain c0 (by omega)
 have hb:=World.block_lt_of_cell? _ _ c0
 refine ⟨a.block,a.off,by rw [←hp],by simpa [Addr.add] using hb,fun i hi=>?_⟩
 have hc:=(World.cells?_some (hY i hi).1).2.2
 rw [hp] at hc
 simp only [plain_add,Nat.add_assoc] at hc
 refine ⟨?_,?_,?_,(hY i hi).2⟩
 ·have:=hc 0 (by omega);simpa using this
 ·have:=hc 1 (by omega);simpa [Nat.add_assoc] using this
 ·have:=hc 2 (by omega);simpa [Nat.add_assoc] using this
theorem arr1 {α:Type} {a:Array α} (h:a.size=1):∃ x,a=#[x]:=by
 rcases a with ⟨l⟩
 match l,h with
 | [x],_=>exact ⟨x,rfl⟩
theorem open_outline {r:Reach} {b0:Nat} {v:Value} {d:DataW H} {p:List MemPlace} (hv:Value.okWide Tryz.prog w r b0 30 v) (h:DataW.Trod enc Tryz.prog w 0 (fun _=>true) held 30 v d p) :
  ∃ (A0:Option Addr) (cap n:Nat) (D:Nat→Dm) (A:Nat→Option Addr) (C:Nat→Nat),v=.agg #[.slice A0 n cap]∧DimsV w A0 cap n D A C:=by
 obtain ⟨cs,rfl,hsz⟩:=okWide_struct Tryz.underlying30 hv
 obtain ⟨c0,rfl⟩:=arr1 (hsz.trans cellsO)
 obtain ⟨fuel,hf⟩:=h
 obtain ⟨-,n,hy⟩:=trod_one Tryz.underlying30 (by kernel_rfl) hf
 obtain ⟨y0,h0⟩:=hy 0 _ c0 rfl rfl
 obtain ⟨A0,cap,k,D,A,C,e,hD⟩:=open_dims h0
 simp at e
 exact ⟨A0,cap,k,D,A,C,by rw [e],hD⟩
end
end Go.Proofs.YtfngmnhkhfgmjahGreatDoor
namespace Go.Proofs.YtfngmnhkhfgmjahGreatDoor
open Go.ChangeShapes Go.WideShapes Go.ChangeAt Go.RowKit
set_option maxRecDepth 20000
theorem IntsAt.nil (w:World) (A:Option Addr) (cap:Nat):IntsAt w A cap []:=⟨Nat.zero_le _,Or.inl rfl⟩
set_option maxHeartbeats 2000000 in
theorem path_any (b o n cap i:Nat) (M:Nat→Mem) (w:World) (hn:n≤12) (hi:i<n) (ht:Tr M n) (hM:MemsAt w b o n M):Calls Tryz.prog 174 #[.slice (some ⟨b,o,none⟩) n cap,.int .i64 i] w fun e w'=>(∃ A c,e=.returned (.slice A (pathOf M i).length c)∧IntsAt w' A c (pathOf M i))∧Below w.heap.size w w':=by
 obtain ⟨i0,hi0,hz0,hz1,hz2⟩:=info_parts Tryz.infoInt
 have HM:Hid (MemsAt w b o n M):=hM
 have HT:Hid (Tr M n):=ht
 have HL:Hid ((pathOf M i).length≤12):=by have:=pathOf_len ht n i (by omega) (by omega);show _≤_;omega
 have hn':(n:Int)≤12:=by omega
 clear hM ht
 go_enter Tryz.func174,Tryz.ntmps174
 go_wp2_with fail
 go_loopg [1,5] (i+1) (fun g s1 s5 wr => ∃ (k:Int) (L:List Int),-1≤k∧k<n∧g=(k+1).toNat∧s1=.int .i64 k∧L ++ pathOf M k=pathOf M i∧wr.ownsRow w.heap.size 3 1 s5 L.length (mapI L)∧Below w.heap.size w wr)
 case atStart=>exact ⟨i,[],by omega,by omega,by omega,rfl,rfl,World.ownsRow_nil _ _ _ _,Below.refl _ _⟩
 case round =>
  obtain ⟨k,L,hk1,hk2,rfl,rfl,hf,hown,hBw⟩:=hrel
  have HF:Hid (L ++ pathOf M k=pathOf M i):=hf
  have HW:Hid (Below w.heap.size w wr):=hBw
  clear hf
  by_cases h0:0≤k
  ·obtain ⟨m,rfl⟩:∃ m:Nat,k=m:=⟨k.toNat,by omega⟩
   have hmn:m<n:=by omega
   have HC:Hid (pathOf M m=(m:Int) :: pathOf M (M m).parent):=pathOf_cons HT.out hmn
   have hlen:L.length+1≤12:=by
    have h1:=HL.out
    rw [←HF.out,HC.out,List.length_append,List.length_cons] at h1
    omega
   have hsz:=hBw.size
   have hp:=HT.out m hmn
   clear hBw
   go_wp2_with (at_builtin;refine wpList_append_own _ rfl _ _ 22 rfl w.heap.size 3 i0 (.int .i64 0) 1 8 Tryz.underlying22 hi0 hz0 hz1 hz2 rfl (by decide) _ _ _ rfl (hown.alloc _) ⟨wr.heap.size,0,none⟩ 1 1 [.int .i64 m] rfl rfl one_cell one_one (by unfold maxLen;omega) (by omega) (by simp;omega) ?_)
   intro v' w1 hown' hgrow _
   have HB1:Hid (Below w.heap.size w w1):=grown_own HW.out hown hgrow
   have HO1:Hid (w1.ownsRow w.heap.size 3 1 v' (L ++ [(m:Int)]).length (mapI (L ++ [(m:Int)]))):=by
    show World.ownsRow ..
    rw [mapI_snoc,List.length_append];exact hown'
   obtain ⟨-,h1,-,-⟩:=(HM.out.later HB1.out).2 m hmn
   clear hown' hgrow hown
   go_wp2_with fail
   go_roundg ((M m).parent+1).toNat
   case measure=>omega
   case rel=>exact ⟨(M m).parent,L ++ [(m:Int)],by omega,by omega,rfl,rfl,by rw [←HF.out,HC.out];simp,HO1.out,HB1.out⟩
  ·have hk:k<0:=by omega
   go_wp2_with fail
   go_ret
   have hL:L=pathOf M i:=by rw [←HF.out,pathOf_neg hk];simp
   rw [←hL]
   obtain ⟨A,c,h1,h2⟩:=ints_of hown
   exact ⟨⟨A,c,by rw [←h1];rfl,h2⟩,HW.out⟩
end Go.Proofs.YtfngmnhkhfgmjahGreatDoor
namespace Go.Proofs.YtfngmnhkhfgmjahGreatDoor
theorem stepTo_prod (D:Nat→Dm) (dim:Nat):∀ t,prodN D (dim+1)*stepTo D dim t=prodN D (dim+1+t)
 | 0=>by simp [stepTo]
 | t+1=>by rw [stepTo,←Nat.mul_assoc,stepTo_prod D dim t];rfl
theorem stepTo_le {D:Nat→Dm} {n dim:Nat} (h:∀ j,j<n→1≤(D j).n) {t:Nat} (ht:dim+1+t≤n):stepTo D dim t≤prodN D (dim+1+t):=by
 rw [←stepTo_prod]
 exact Nat.le_mul_of_pos_left _ (prodN_pos fun j hj=>h j (by omega))
def passTo (D:Nat→Dm) (n dim m:Nat) (L:List (Int×Int)):Nat→List (Int×Int)
 | 0=>L
 | x+1=>if x / stepD D n dim % (D dim).n=m then (passTo D n dim m L x).set x (partsV (D dim).mem (atP D n dim m x (passTo D n dim m L x)) (partsOf (D dim).mem (D dim).n m)) else passTo D n dim m L x
def mbrV (D:Nat→Dm) (n dim m:Nat) (L:List (Int×Int)):List (Int×Int):=if partsOf (D dim).mem (D dim).n (m:Int)=[] then L else passTo D n dim m L L.length
def onceTo (D:Nat→Dm) (n dim:Nat) (L:List (Int×Int)):Nat→List (Int×Int)
 | 0=>L
 | r+1=>mbrV D n dim ((D dim).n-1-r) (onceTo D n dim L r)
def onceV (D:Nat→Dm) (n dim:Nat) (L:List (Int×Int)):List (Int×Int):=onceTo D n dim L (D dim).n
theorem pass_len (D:Nat→Dm) (n dim m:Nat) (L:List (Int×Int)):∀ x,(passTo D n dim m L x).length=L.length
 | 0=>rfl
 | x+1=>by
  rw [passTo]
  split
  ·rw [List.length_set,pass_len D n dim m L x]
  ·exact pass_len D n dim m L x
theorem mbr_len (D:Nat→Dm) (n dim m:Nat) (L:List (Int×Int)):(mbrV D n dim m L).length=L.length:=by
 unfold mbrV
 split
 ·rfl
 ·exact pass_len ..
theorem once_len (D:Nat→Dm) (n dim:Nat) (L:List (Int×Int)):∀ r,(onceTo D n dim L r).length=L.length
 | 0=>rfl
 | r+1=>by rw [onceTo,mbr_len,once_len D n dim L r]
def goodL (L:List (Int×Int)):Prop := ∀ c∈L,goodC c
theorem goodL_set {L:List (Int×Int)} (h:goodL L) (x:Nat) {c:Int×Int} (hc:goodC c):goodL (L.set x c):=fun y hy=>by
 rcases List.mem_or_eq_of_mem_set hy with h1 | h1
 ·exact h y h1
 ·rw [h1];exact hc
theorem good_at {L:List (Int×Int)} (h:goodL L) (x:Int):goodC (cAt L x):=by
 unfold cAt
 rw [List.getD_eq_getElem?_getD]
 cases he:L[x.toNat]? with
 | none=>exact good_zero
 | some c=>exact h c (List.mem_of_getElem? he)
theorem pass_good {D:Nat→Dm} {n dim m:Nat} {L:List (Int×Int)} (h:goodL L):∀ x,goodL (passTo D n dim m L x)
 | 0=>h
 | x+1=>by
  rw [passTo]
  split
  ·exact goodL_set (pass_good h x) _ (good_parts ..)
  ·exact pass_good h x
theorem mbr_good {D:Nat→Dm} {n dim m:Nat} {L:List (Int×Int)} (h:goodL L):goodL (mbrV D n dim m L):=by
 unfold mbrV
 split
 ·exact h
 ·exact pass_good h _
theorem once_good {D:Nat→Dm} {n dim:Nat} {L:List (Int×Int)} (h:goodL L):∀ r,goodL (onceTo D n dim L r)
 | 0=>h
 | r+1=>mbr_good (once_good h r)
end Go.Proofs.YtfngmnhkhfgmjahGreatDoor
namespace Go.Proofs.YtfngmnhkhfgmjahGreatDoor
open Go.ChangeShapes Go.WideShapes Go.ChangeAt Go.RowKit
set_option maxRecDepth 20000
set_option maxHeartbeats 2000000 in
theorem places_any (fn q r:Nat) (he:EntersO fn) (A:Option Addr) (n cap:Nat) (p:Nat→Bool) (w:World) (hn:n≤12) (hp:AskP fn q r w n p):Calls Tryz.prog 172 #[.slice A n cap,.func (.func fn) #[] #[.pointer (some ⟨q,0,none⟩),.pointer (some ⟨r,0,none⟩)]] w fun e w'=>(∃ A c,e=.returned (.slice A (selTo p n).length c)∧IntsAt w' A c (selTo p n))∧Below w.heap.size w w':=by
 obtain ⟨i0,hi0,hz0,hz1,hz2⟩:=info_parts Tryz.infoInt
 have HP:Hid (AskP fn q r w n p):=hp
 have hn':(n:Int)≤12:=by omega
 clear hp
 unfold EntersO at he
 go_enter Tryz.func172,Tryz.ntmps172
 go_wp2_with fail
 go_loopg [5,9] n (fun g s5 s9 wr => ∃ (k:Nat),k≤n∧g=n-k∧s9=.int .i64 k∧wr.ownsRow w.heap.size 3 1 s5 (selTo p k).length (mapI (selTo p k))∧Below w.heap.size w wr)
 case atStart=>exact ⟨0,Nat.zero_le _,rfl,rfl,World.ownsRow_nil _ _ _ _,Below.refl _ _⟩
 case round =>
  obtain ⟨k,hk,rfl,rfl,hown,hBw⟩:=hrel
  have HW:Hid (Below w.heap.size w wr):=hBw
  have HO:Hid (wr.ownsRow w.heap.size 3 1 _ (selTo p k).length (mapI (selTo p k))):=hown
  by_cases hlt:k<n
  ·have hki:(k:Int)<(n:Int):=by omega
   have hbd:=HP.out k wr hlt hBw
   clear hBw hown
   cases hb:p k
   ·rw [hb] at hbd
    have HK:Hid (p k=false):=hb
    clear hb
    go_wp2_with fail
    refine hbd.mono ?_
    rintro e w1 ⟨rfl,hb1⟩
    go_wp2_with fail
    go_roundg (n-(k+1))
    case measure=>omega
    case rel=>exact ⟨k+1,by omega,rfl,by go_num,by rw [selTo_miss HK.out];exact own_later HO.out hb1,onB HW.out hb1⟩
   ·rw [hb] at hbd
    have HK:Hid (p k=true):=hb
    have hlen:=selTo_len p k
    clear hb
    go_wp2_with fail
    refine hbd.mono ?_
    rintro e w1 ⟨rfl,hb1⟩
    have hown:=own_later HO.out hb1
    have hB1:=onB HW.out hb1
    have hsz:=hB1.size
    have HB1:Hid (Below w.heap.size w w1):=hB1
    clear hb1 hB1
    go_wp2_with (at_builtin;refine wpList_append_own _ rfl _ _ 22 rfl w.heap.size 3 i0 (.int .i64 0) 1 8 Tryz.underlying22 hi0 hz0 hz1 hz2 rfl (by decide) _ _ _ rfl (hown.alloc _) ⟨w1.heap.size,0,none⟩ 1 1 [.int .i64 k] rfl rfl one_cell one_one (by unfold maxLen;omega) (by omega) (by simp;omega) ?_)
    intro v' w2 hown' hgrow _
    have HB2:Hid (Below w.heap.size w w2):=grown_own HB1.out hown hgrow
    have HO2:Hid (w2.ownsRow w.heap.size 3 1 v' (selTo p (k+1)).length (mapI (selTo p (k+1)))):=by
     show World.ownsRow ..
     rw [selTo_hit HK.out,mapI_snoc,List.length_append];exact hown'
    clear hown' hgrow hown
    go_wp2_with fail
    go_roundg (n-(k+1))
    case measure=>omega
    case rel=>exact ⟨k+1,by omega,rfl,by go_num,HO2.out,HB2.out⟩
  ·have hke:k=n:=by omega
   subst hke
   clear hBw hown
   go_wp2_with fail
   go_ret
   obtain ⟨A,c,h1,h2⟩:=ints_of HO.out
   exact ⟨⟨A,c,by rw [←h1];rfl,h2⟩,HW.out⟩
theorem drop_at {L:List Int} {k:Nat} (h:k<L.length):L.drop k=L.getD k 0 :: L.drop (k+1):=by
 rw [List.drop_eq_getElem_cons h];simp [List.getD,List.getElem?_eq_getElem h]
theorem getD_mem {L:List Int} {k:Nat} (h:k<L.length):L.getD k 0∈L:=by
 simp [List.getD,List.getElem?_eq_getElem h]
set_option maxHeartbeats 2000000 in
theorem weight_any (b o n cap j:Nat) (i:Int) (M:Nat→Mem) (w:World) (hn:n≤12) (hj:j<n) (ht:Tr M n) (hs:Sg M n) (hM:MemsAt w b o n M):Calls Tryz.prog 139 #[.slice (some ⟨b,o,none⟩) n cap,.int .i64 i,.int .i64 j] w fun e w'=>e=.returned (.int .i64 (weightOf M i j))∧Below w.heap.size w w':=by
 have hpl:=path_any b o n cap j M w hn hj ht hM
 have HM:Hid (MemsAt w b o n M):=hM
 have HS:Hid (Sg M n):=hs
 have hln:(pathOf M j).length≤12:=by have:=pathOf_len ht n j (by omega) (by omega);omega
 have HI:Hid (∀ x∈pathOf M j,0≤x∧x<n):=fun x hx=>by have:=pathOf_mem ht n j (by omega) (by omega) x hx;omega
 have HW:Hid (wgt M i (pathOf M j) 1=weightOf M i j):=rfl
 generalize pathOf M j=L at hpl hln HI HW
 clear hM ht hs
 go_enter Tryz.func139,Tryz.ntmps139
 go_wp2_with fail
 refine hpl.mono ?_
 rintro e w1 ⟨⟨A,c,rfl,hI⟩,hb1⟩
 have HB1:Hid (Below w.heap.size w w1):=hb1
 have hM1:=HM.out.later hb1
 have hbw:=hM1.1
 have HMs:Hid (MemsAt w1 b o n M):=hM1
 have HL:Hid (IntsAt w1 A c L):=hI
 clear hb1 hpl hM1 hI
 go_wp2_with fail
 go_loopg [7,14] L.length (fun g s7 s14 wr => ∃ (k:Nat) (a:Int),k≤L.length∧g=L.length-k∧s14=.int .i64 k∧s7=.int .i64 a∧(-1≤a∧a≤1)∧wgt M i (L.drop k) a=wgt M i L 1∧wr=w1)
 case atStart=>exact ⟨0,1,Nat.zero_le _,rfl,rfl,rfl,by omega,rfl,rfl⟩
 case round =>
  obtain ⟨k,a,hk,rfl,rfl,rfl,ha,hf,rfl⟩:=hrel
  have HF:Hid (wgt M i (L.drop k) a=wgt M i L 1):=hf
  clear hf
  by_cases hlt:k<L.length
  ·obtain ⟨hc,h0 | ⟨g,rfl,hg,hcell⟩⟩:=HL.out
   ·rw [h0] at hlt;cases hlt
   have hx:=HI.out _ (getD_mem hlt)
   have HD:Hid (L.drop k=L.getD k 0 :: L.drop (k+1)):=drop_at hlt
   have hcx:=hcell k hlt
   generalize L.getD k 0=x at hx HD hcx
   obtain ⟨m,rfl⟩:∃ m:Nat,x=m:=⟨x.toNat,by omega⟩
   have hmn:m<n:=by omega
   have hki:(k:Int)<(L.length:Int):=by omega
   have hln':(L.length:Int)≤12:=by omega
   have hn':(n:Int)≤12:=by omega
   have hmi:(m:Int)<(n:Int):=by omega
   clear hcell hx
   by_cases hq:(m:Int)=i
   ·subst hq
    have HR:Hid (a=weightOf M m j):=by show _=_;rw [←HW.out,←HF.out,HD.out,wgt_hit]
    go_wp2_with fail
    go_ret
    exact ⟨by rw [←HR.out];rfl,HB1.out⟩
   ·have hq':((m:Int) == i)=false:=by simpa using hq
    obtain ⟨-,-,h2,-⟩:=HMs.out.2 m hmn
    have hsm:=HS.out m hmn
    have hmul:=small_mul ha hsm
    have HR:Hid (wgt M i (L.drop (k+1)) (a*(M m).sign)=wgt M i L 1):=by show _=_;rw [←HF.out,HD.out,wgt_miss hq];rfl
    have HMul:Hid (-1≤a*(M m).sign∧a*(M m).sign≤1):=hmul
    clear hq
    go_wp2_with fail
    go_roundg (L.length-(k+1))
    case measure=>omega
    case rel=>exact ⟨k+1,a*(M m).sign,by omega,rfl,by go_num,by go_num,HMul.out,HR.out,rfl⟩
  ·have hke:k=L.length:=by omega
   have HR:Hid (0=weightOf M i j):=by show _=_;rw [←HW.out,←HF.out,hke,List.drop_length];rfl
   subst hke
   go_wp2_with fail
   go_ret
   exact ⟨by rw [←HR.out];rfl,HB1.out⟩
theorem ints_new {w:World} {base e:Nat} {v:Value} {L:List Int} (h:w.ownsRow base e 1 v L.length (mapI L)):∃ A cap,v=.slice A L.length cap∧IntsAt w A cap L∧∀ b o,A=some ⟨b,o,none⟩→base≤b:=by
 obtain ⟨A,cap,h1,h2⟩:=ints_of h
 refine ⟨A,cap,h1,h2,fun b o e=>?_⟩
 subst h1
 exact (h.lt b (by simp [Value.ownBlock,e])).1
set_option maxHeartbeats 2000000 in
theorem places_new (fn q r:Nat) (he:EntersO fn) (A:Option Addr) (n cap:Nat) (p:Nat→Bool) (w:World) (hn:n≤12) (hp:AskP fn q r w n p):Calls Tryz.prog 172 #[.slice A n cap,.func (.func fn) #[] #[.pointer (some ⟨q,0,none⟩),.pointer (some ⟨r,0,none⟩)]] w fun e w'=>(∃ A c,e=.returned (.slice A (selTo p n).length c)∧IntsAt w' A c (selTo p n)∧∀ b o,A=some ⟨b,o,none⟩→w.heap.size≤b)∧Below w.heap.size w w':=by
 obtain ⟨i0,hi0,hz0,hz1,hz2⟩:=info_parts Tryz.infoInt
 have HP:Hid (AskP fn q r w n p):=hp
 have hn':(n:Int)≤12:=by omega
 clear hp
 unfold EntersO at he
 go_enter Tryz.func172,Tryz.ntmps172
 go_wp2_with fail
 go_loopg [5,9] n (fun g s5 s9 wr => ∃ (k:Nat),k≤n∧g=n-k∧s9=.int .i64 k∧wr.ownsRow w.heap.size 3 1 s5 (selTo p k).length (mapI (selTo p k))∧Below w.heap.size w wr)
 case atStart=>exact ⟨0,Nat.zero_le _,rfl,rfl,World.ownsRow_nil _ _ _ _,Below.refl _ _⟩
 case round =>
  obtain ⟨k,hk,rfl,rfl,hown,hBw⟩:=hrel
  have HW:Hid (Below w.heap.size w wr):=hBw
  have HO:Hid (wr.ownsRow w.heap.size 3 1 _ (selTo p k).length (mapI (selTo p k))):=hown
  by_cases hlt:k<n
  ·have hki:(k:Int)<(n:Int):=by omega
   have hbd:=HP.out k wr hlt hBw
   clear hBw hown
   cases hb:p k
   ·rw [hb] at hbd
    have HK:Hid (p k=false):=hb
    clear hb
    go_wp2_with fail
    refine hbd.mono ?_
    rintro e w1 ⟨rfl,hb1⟩
    go_wp2_with fail
    go_roundg (n-(k+1))
    case measure=>omega
    case rel=>exact ⟨k+1,by omega,rfl,by go_num,by rw [selTo_miss HK.out];exact own_later HO.out hb1,onB HW.out hb1⟩
   ·rw [hb] at hbd
    have HK:Hid (p k=true):=hb
    have hlen:=selTo_len p k
    clear hb
    go_wp2_with fail
    refine hbd.mono ?_
    rintro e w1 ⟨rfl,hb1⟩
    have hown:=own_later HO.out hb1
    have hB1:=onB HW.out hb1
    have hsz:=hB1.size
    have HB1:Hid (Below w.heap.size w w1):=hB1
    clear hb1 hB1
    go_wp2_with (at_builtin;refine wpList_append_own _ rfl _ _ 22 rfl w.heap.size 3 i0 (.int .i64 0) 1 8 Tryz.underlying22 hi0 hz0 hz1 hz2 rfl (by decide) _ _ _ rfl (hown.alloc _) ⟨w1.heap.size,0,none⟩ 1 1 [.int .i64 k] rfl rfl one_cell one_one (by unfold maxLen;omega) (by omega) (by simp;omega) ?_)
    intro v' w2 hown' hgrow _
    have HB2:Hid (Below w.heap.size w w2):=grown_own HB1.out hown hgrow
    have HO2:Hid (w2.ownsRow w.heap.size 3 1 v' (selTo p (k+1)).length (mapI (selTo p (k+1)))):=by
     show World.ownsRow ..
     rw [selTo_hit HK.out,mapI_snoc,List.length_append];exact hown'
    clear hown' hgrow hown
    go_wp2_with fail
    go_roundg (n-(k+1))
    case measure=>omega
    case rel=>exact ⟨k+1,by omega,rfl,by go_num,HO2.out,HB2.out⟩
  ·have hke:k=n:=by omega
   subst hke
   clear hBw hown
   go_wp2_with fail
   go_ret
   obtain ⟨A,c,h1,h2,h3⟩:=ints_new HO.out
   exact ⟨⟨A,c,by rw [←h1];rfl,h2,h3⟩,HW.out⟩
set_option maxHeartbeats 2000000 in
theorem parts_new (d:Dm) (A:Option Addr) (cap:Nat) (i:Int) (w:World) (hM:MemsV w A cap d.n d.mem):Calls Tryz.prog 146 #[dimV d A cap,.int .i64 i] w fun e w'=>(∃ A' c',e=.returned (.tuple #[.slice A' (lst (treeErr d [i]) (partsOf d.mem d.n i)).length c',errV (treeErr d [i])])∧IntsAt w' A' c' (lst (treeErr d [i]) (partsOf d.mem d.n i))∧∀ b o,A'=some ⟨b,o,none⟩→w.heap.size≤b)∧Below w.heap.size w w':=by
 have hB0:=ownQ_below w d A cap i 63 3
 have hck:=tcheck_any d A cap _ 1 [i] (ownQ w d A cap i 63 3) (hM.later hB0) (by simp) (ownQ_ints ..)
 have HB0:Hid (Below w.heap.size w (ownQ w d A cap i 63 3)):=hB0
 have HM:Hid (MemsV w A cap d.n d.mem):=hM
 unfold dimV at hck ⊢
 simp only [List.length_singleton] at hck
 clear hM hB0
 by_cases he:treeErr d [i]=0
 ·obtain ⟨hd,k,rfl,hk⟩:=treeErr_in he
  rw [he,errV_zero] at hck
  obtain ⟨-,-,hd2,-⟩:=dimErr_right hd
  have HR:Hid (lst (treeErr d [(k:Int)]) (partsOf d.mem d.n k)=selTo (partB d.mem k) d.n):=lst_ok he _
  have HE:Hid (errV (treeErr d [(k:Int)])=.nilIface):=by show _=_;rw [he];rfl
  clear he hd
  go_enter Tryz.func146,Tryz.ntmps146
  go_wp2_with fail
  refine hck.mono ?_
  rintro e w1 ⟨rfl,hb1⟩
  have hB:Below w.heap.size w w1:=onB HB0.out hb1
  have hz:w.heap.size+1<w1.heap.size:=by have:=hb1.size;rw [ownQ_size] at this;omega
  have h2:w1.cell? ⟨w.heap.size,2,none⟩=some (.slice A d.n cap):=(hb1.cell (p:=⟨w.heap.size,2,none⟩) (by show w.heap.size<_;rw [ownQ_size];omega)).trans (ownQ_dim ..)
  have h3:w1.cell? ⟨w.heap.size+1,0,none⟩=some (.int .i64 k):=(hb1.cell (p:=⟨w.heap.size+1,0,none⟩) (by show w.heap.size+1<_;rw [ownQ_size];omega)).trans (ownQ_int ..)
  obtain ⟨hcap,h0 | ⟨b,o,rfl,hMs⟩⟩:=HM.out.later hB
  ·omega
  have hpl:=places_new 183 w.heap.size (w.heap.size+1) parts1_in (some ⟨b,o,none⟩) d.n cap (partB d.mem k) w1 hd2 (fun j w' hj hw'=>parts1_any b o d.n cap j w.heap.size (w.heap.size+1) d.mem k w' hj hd2 (hMs.later hw') ((hw'.cell (p:=⟨w.heap.size,2,none⟩) (by show w.heap.size<_;omega)).trans h2) ((hw'.cell (p:=⟨w.heap.size+1,0,none⟩) hz).trans h3))
  have HB:Hid (Below w.heap.size w w1):=hB
  clear hb1 hck hMs h3 hB
  go_wp2_with fail
  refine hpl.mono ?_
  rintro e w2 ⟨⟨A',c',rfl,hI,hN⟩,hb2⟩
  have HNw:Hid (∀ b o,A'=some ⟨b,o,none⟩→w.heap.size≤b):=fun b o e=>Nat.le_trans HB.out.size (hN b o e)
  clear hN
  go_wp2_with fail
  go_ret2
  rw [HR.out,HE.out]
  exact ⟨⟨A',c',rfl,hI,HNw.out⟩,onB HB.out hb2⟩
 ·have HR:Hid (lst (treeErr d [i]) (partsOf d.mem d.n i)=[]):=lst_bad he _
  have HE:Hid (errV (treeErr d [i])=.iface 86 (.int .i64 (treeErr d [i]))):=errV_some he
  rw [errV_some he] at hck
  clear he
  generalize treeErr d [i]=c at hck HR HE
  go_enter Tryz.func146,Tryz.ntmps146
  go_wp2_with fail
  refine hck.mono ?_
  rintro e w1 ⟨rfl,hb1⟩
  go_wp2_with fail
  go_ret2
  rw [HR.out,HE.out]
  exact ⟨⟨none,0,rfl,IntsAt.nil _ _ _,fun b o e=>by cases e⟩,onB HB0.out hb1⟩
end Go.Proofs.YtfngmnhkhfgmjahGreatDoor
namespace Go.Proofs.YtfngmnhkhfgmjahGreatDoor
open Go Go.ChangeShapes Go.WideShapes Go.ChangeAt Go.RowKit Go.Deep
set_option maxRecDepth 100000
theorem open_place {H:Type} {enc:TypeId×Value→H} {w:World} {held:Bool} {r:Reach} {b0:Nat} {v:Value} {d:DataW H} {p:List MemPlace} (hv:Value.okWide Tryz.prog w r b0 35 v) (h:DataW.Trod enc Tryz.prog w 0 (fun _=>true) held 35 v d p) :
  ∃ (Ap:Option Addr) (cp:Nat) (L:List Int),v=.slice Ap L.length cp∧PlAt w Ap cp L:=by
 obtain ⟨a,len,cap,rfl⟩:=okWide_slice Tryz.underlying35 hv
 obtain ⟨fuel,hf⟩:=h
 have hf':DataW.trod enc Tryz.prog w 0 (fun _=>true) held fuel 35 [.slice a len cap]=some (d,p):=hf
 rcases open_ints Tryz.underlying35 Tryz.underlying3 (by kernel_rfl) hf' with ⟨e,_⟩ | ⟨a',len',cap',zs,e,_,hl,_,hzl,_,hc,_⟩
 ·simp at e
  obtain ⟨rfl,rfl,rfl⟩:=e
  exact ⟨none,0,[],rfl,PlAt.nil _ _ _⟩
 ·simp at e hzl
  obtain ⟨rfl,rfl,rfl⟩:=e
  have hlen:(zs.take len).length=len:=by simp;omega
  refine ⟨some a',cap,zs.take len,by rw [hlen],by rw [hlen];exact hl,?_⟩
  rcases Nat.eq_zero_or_pos len with h0 | h0
  ·left
   subst h0
   simp
  right
  have c0:=hc 0 (by omega)
  have hp:=addr_plain c0 rfl
  have hb:=World.block_lt_of_cell? _ _ c0
  refine ⟨a'.block,a'.off,by rw [←hp],by simpa [Addr.add] using hb,fun j hj=>?_⟩
  rw [hlen] at hj
  have:=hc j (by omega)
  rw [hp,plain_add] at this
  rw [this]
  simp [List.getD,hj]
section
variable {H:Type} {enc:TypeId×Value→H} {w:World} {held:Bool}
theorem cellsEn:Tryz.prog.cellsOf 69=2:=by kernel_rfl
theorem open_pl {fuel:Nat} {cs:List Value} {x:DataW H×List MemPlace} (h:DataW.trod enc Tryz.prog w 0 (fun _=>true) held fuel 35 cs=some x) :
  ∃ (Ap:Option Addr) (cp:Nat) (L:List Int),cs=[.slice Ap L.length cp]∧PlAt w Ap cp L:=by
 rcases open_ints Tryz.underlying35 Tryz.underlying3 (by kernel_rfl) h with ⟨rfl,_⟩ | ⟨a',len,cap,zs,rfl,_,hl,_,hzl,_,hc,_⟩
 ·exact ⟨none,0,[],rfl,PlAt.nil _ _ _⟩
 ·simp at hzl
  have hlen:(zs.take len).length=len:=by simp;omega
  refine ⟨some a',cap,zs.take len,by rw [hlen],by rw [hlen];exact hl,?_⟩
  rcases Nat.eq_zero_or_pos len with h0 | h0
  ·left
   subst h0
   simp
  right
  have c0:=hc 0 (by omega)
  have hp:=addr_plain c0 rfl
  have hb:=World.block_lt_of_cell? _ _ c0
  refine ⟨a'.block,a'.off,by rw [←hp],by simpa [Addr.add] using hb,fun j hj=>?_⟩
  rw [hlen] at hj
  have:=hc j (by omega)
  rw [hp,plain_add] at this
  rw [this]
  simp [List.getD,hj]
theorem open_en {fuel:Nat} {cs:List Value} {x:DataW H×List MemPlace} (h:DataW.trod enc Tryz.prog w 0 (fun _=>true) held fuel 69 cs=some x) :
  ∃ (e:En) (A:Option Addr) (c:Nat),cs=[.slice A e.pl.length c,.int .i64 e.n]∧PlAt w A c e.pl:=by
 obtain ⟨hl,n,hf⟩:=trod_one Tryz.underlying69 (by kernel_rfl) h
 rw [cellsEn] at hl
 match cs,hl with
 | [v0,v1],_ =>
  obtain ⟨y0,h0⟩:=hf 0 _ v0 rfl rfl
  obtain ⟨y1,h1⟩:=hf 1 _ v1 rfl rfl
  obtain ⟨A,c,L,e0,hP⟩:=open_pl h0
  obtain ⟨n1,e1,-,-⟩:=DataW.trod_int Tryz.underlying3 h1
  simp at e0 e1
  exact ⟨⟨L,n1⟩,A,c,by rw [e0,e1],hP⟩
theorem cells_of_each {b o:Nat} {xs:List EnL} (h:∀ i,i<xs.length→w.cell? ⟨b,o+i*2,none⟩=some (.slice (xs.getD i noL).A (xs.getD i noL).e.pl.length (xs.getD i noL).c)∧w.cell? ⟨b,o+i*2+1,none⟩=some (.int .i64 (xs.getD i noL).e.n)):∀ j u,(cellsE xs)[j]?=some u→w.cell? ⟨b,o+j,none⟩=some u:=by
 intro j u hj
 have hlt:j<(cellsE xs).length:=(List.getElem?_eq_some_iff.1 hj).1
 rw [cellsE_len] at hlt
 have hk:j / 2<xs.length:=by omega
 obtain ⟨h1,h2⟩:=cellsE_at xs _ hk
 obtain ⟨c1,c2⟩:=h _ hk
 rcases Nat.mod_two_eq_zero_or_one j with hm | hm
 ·have e:j=j / 2*2:=by omega
  rw [e] at hj ⊢
  rw [h1] at hj
  rw [c1]
  exact hj
 ·have e:j=j / 2*2+1:=by omega
  rw [e] at hj ⊢
  rw [h2] at hj
  rw [←Nat.add_assoc,c2]
  exact hj
theorem open_ens {r:Reach} {b0:Nat} {v:Value} {d:DataW H} {p:List MemPlace} (hv:Value.okWide Tryz.prog w r b0 48 v) (h:DataW.Trod enc Tryz.prog w 0 (fun _=>true) held 48 v d p) :
  ∃ (A:Option Addr) (cap:Nat) (xs:List EnL),v=.slice A xs.length cap∧EnsV w A cap xs:=by
 obtain ⟨a0,len0,cap0,rfl⟩:=okWide_slice Tryz.underlying48 hv
 obtain ⟨fuel,hf⟩:=h
 have hf':DataW.trod enc Tryz.prog w 0 (fun _=>true) held fuel 48 [.slice a0 len0 cap0]=some (d,p):=hf
 rcases open_slice Tryz.underlying48 hf' with ⟨e,-⟩ | ⟨a,len,cap,m,n,D,Pl,e,-,hl,hcm,hm,-,hx⟩
 ·simp at e
  obtain ⟨rfl,rfl,rfl⟩:=e
  exact ⟨none,0,[],rfl,Nat.le_refl _,Nat.zero_le _,Or.inl rfl⟩
 simp at e
 obtain ⟨rfl,rfl,rfl⟩:=e
 rw [cellsEn] at hx
 simp at hm
 subst hm
 haveI:Inhabited EnL:=⟨noL⟩
 have each:∀ i,i<len0→∃ y:EnL,w.cells? 0 (a.add (i*2)) 2=some [.slice y.A y.e.pl.length y.c,.int .i64 y.e.n]∧PlAt w y.A y.c y.e.pl:=fun i hi=>by
  obtain ⟨cs',h1,h2⟩:=hx i (by omega)
  obtain ⟨e,A,c,rfl,hp⟩:=open_en h2
  exact ⟨⟨e,A,c⟩,h1,hp⟩
 obtain ⟨Y,hY⟩:=choose_lt each
 have hlen:((List.range len0).map Y).length=len0:=by simp
 have hg:∀ i,i<len0→((List.range len0).map Y).getD i noL=Y i:=fun i hi=>by simp [List.getD,hi]
 refine ⟨some a,_,(List.range len0).map Y,by rw [hlen],by rw [hlen];exact hl,hcm,?_⟩
 rcases Nat.eq_zero_or_pos len0 with h0 | h0
 ·left;subst h0;rfl
 right
 have c0:=(World.cells?_some (hY 0 h0).1).2.2 0 (by omega)
 rw [add_add] at c0
 have hp:=addr_plain c0 (by omega)
 have hb:=World.block_lt_of_cell? _ _ c0
 refine ⟨a.block,a.off,by rw [←hp],by simpa [Addr.add] using hb,cells_of_each fun i hi=>?_,fun x hx=>?_⟩
 ·rw [hlen] at hi
  have hc:=(World.cells?_some (hY i hi).1).2.2
  rw [hp] at hc
  simp only [plain_add,Nat.add_assoc] at hc
  rw [hg i hi]
  refine ⟨?_,?_⟩
  ·have:=hc 0 (by omega);simpa using this
  ·have:=hc 1 (by omega);simpa [Nat.add_assoc] using this
 ·simp only [List.mem_map,List.mem_range] at hx
  obtain ⟨i,hi,rfl⟩:=hx
  exact (hY i hi).2
end
end Go.Proofs.YtfngmnhkhfgmjahGreatDoor
namespace Go.Proofs.YtfngmnhkhfgmjahGreatDoor
open Go.ChangeShapes Go.WideShapes Go.ChangeAt Go.RowKit
set_option maxRecDepth 20000
def ownOC (w:World) (A0:Option Addr) (n cap:Nat):World:=(ownOut w A0 n cap 30).alloc (.cells #[.int .i64 0,.int .i64 0] 40)
theorem ownOC_size (w:World) (A0:Option Addr) (n cap:Nat):(ownOC w A0 n cap).heap.size=w.heap.size+2:=by unfold ownOC;simp [ownOut_size]
theorem ownOC_below (w:World) (A0:Option Addr) (n cap:Nat):Below w.heap.size w (ownOC w A0 n cap):=by unfold ownOC ownOut;go_grown
theorem ownOC_o (w:World) (A0:Option Addr) (n cap:Nat):(ownOC w A0 n cap).cell? ⟨w.heap.size,0,none⟩=some (.slice A0 n cap):=by
 unfold ownOC
 rw [World.cell?_alloc_lt _ _ ⟨w.heap.size,0,none⟩ (by simp [ownOut_size])]
 exact ownOut_at ..
theorem ownOC_b (w:World) (A0:Option Addr) (n cap:Nat):(ownOC w A0 n cap).heap[w.heap.size+1]?=some (.cells #[.int .i64 0,.int .i64 0] 40):=by
 have h:=heap_alloc_new (ownOut w A0 n cap 30) (.cells #[.int .i64 0,.int .i64 0] 40)
 rw [ownOut_size] at h
 exact h
set_option maxHeartbeats 2000000 in
theorem step_any (b o cap n dim:Nat) (D:Nat→Dm) (A:Nat→Option Addr) (C:Nat→Nat) (w:World) (hdim:dim<n) (hn:n≤4) (hcap:n≤cap) (hd:∀ j,j<n→1≤(D j).n∧(D j).n≤12) (hM:DimsAt w b o n D A C) :
  Calls Tryz.prog 145 #[.agg #[.slice (some ⟨b,o,none⟩) n cap],.int .i64 dim] w fun e w'=>e=.returned (.int .i64 (stepD D n dim))∧Below w.heap.size w w':=by
 have HM:Hid (DimsAt w b o n D A C):=hM
 have HD:Hid (∀ j,j<n→1≤(D j).n∧(D j).n≤12):=hd
 have hn':(n:Int)≤4:=by omega
 have hdi:(dim:Int)+1≤(n:Int):=by omega
 obtain ⟨m,hm⟩:∃ m,n=dim+1+m:=⟨n-(dim+1),by omega⟩
 have HS:Hid (stepD D n dim=stepTo D dim m):=by show _=_;unfold stepD;rw [show n-1-dim=m by omega]
 have hB0:=ownOut_below w (some ⟨b,o,none⟩) n cap 30
 obtain ⟨W,hW⟩:∃ W,w.alloc (.cells #[.slice (some ⟨b,o,none⟩) n cap] 30)=W:=⟨_,rfl⟩
 have hWo:ownOut w (some ⟨b,o,none⟩) n cap 30=W:=hW
 rw [hWo] at hB0
 have HB0:Hid (Below w.heap.size w W):=hB0
 have HMW:Hid (DimsAt W b o n D A C):=hM.later hB0
 have cW:W.cell? ⟨w.heap.size,0,none⟩=some (.slice (some ⟨b,o,none⟩) n cap):=by rw [←hWo];exact ownOut_at ..
 have e1:n-(dim+1)=m:=by omega
 have e2:((dim:Int)+1).toNat=dim+1:=by omega
 have hm':(m:Int)≤4:=by omega
 have HE:Hid (n=dim+1+m):=hm
 clear hM hd hB0 hWo hm
 by_cases hc:cap=dim+1
 ·have hm0:m=0:=by have:=HE.out;omega
  subst hm0
  subst hc
  go_enter Tryz.func145,Tryz.ntmps145
  go_wp2_with fail
  clear hW
  refine wp_loop_rounds 1 ?_
  rw [rounds_succ]
  go_wp2_with fail
  go_ret
  exact ⟨by rw [HS.out];rfl,HB0.out⟩
 go_enter Tryz.func145,Tryz.ntmps145
 go_wp2_with fail
 clear hW
 go_loopg [5,14] m (fun g s5 s14 wr => ∃ (k:Nat),k≤m∧g=m-k∧s14=.int .i64 k∧s5=.int .i64 (stepTo D dim k)∧Below W.heap.size W wr)
 case atStart=>exact ⟨0,Nat.zero_le _,rfl,rfl,rfl,Below.refl _ _⟩
 case round =>
  obtain ⟨k,hk,rfl,rfl,rfl,hBw⟩:=hrel
  have HW:Hid (Below W.heap.size W wr):=hBw
  by_cases hlt:k<m
  ·obtain ⟨h0,h1,h3,-⟩:=(HMW.out.later hBw).2 (dim+1+k) (by have:=HE.out;omega)
   rw [show o+(dim+1+k)*3=o+(dim+1)*3+k*3 by omega] at h0 h1 h3
   have hki:(k:Int)<(m:Int):=by omega
   have hp1:stepTo D dim (k+1)≤20736:=Nat.le_trans (stepTo_le (n:=n) (fun j hj=>(HD.out j hj).1) (by have:=HE.out;omega)) (prod_small (fun j hj=>(HD.out j (by have:=HE.out;omega)).2) (by have:=HE.out;omega))
   have hp2:(stepTo D dim (k+1):Int)=(stepTo D dim k:Int)*((D (dim+1+k)).n:Int):=by rw [stepTo];exact Int.natCast_mul _ _
   have hp3:0≤(stepTo D dim k:Int)*((D (dim+1+k)).n:Int):=by omega
   have hp4:(stepTo D dim k:Int)*((D (dim+1+k)).n:Int)≤20736:=by omega
   have HP:Hid ((stepTo D dim (k+1):Int)=(stepTo D dim k:Int)*((D (dim+1+k)).n:Int)):=hp2
   clear hBw hp1 hp2
   go_wp2_with fail
   go_roundg (m-(k+1))
   case measure=>omega
   case rel=>exact ⟨k+1,by omega,rfl,by go_num,by rw [HP.out],onB HW.out (by go_grown)⟩
  ·have hke:k=m:=by omega
   subst hke
   go_wp2_with fail
   go_ret
   exact ⟨by rw [HS.out];rfl,onB HB0.out HW.out⟩
def chkErr (D:Nat→Dm) (n:Nat) (L:List (Int×Int)):Int:=if (allErr D n).2.2≠0 then (allErr D n).2.2 else if L.length≠prodN D n then 3 else if 0≤findFrom (goodB L) L.length 0 then 1 else 0
theorem ck0 {D:Nat→Dm} {n:Nat} {L:List (Int×Int)} (h:(allErr D n).2.2≠0):chkErr D n L=(allErr D n).2.2:=by unfold chkErr;rw [if_pos h]
theorem ck1 {D:Nat→Dm} {n:Nat} {L:List (Int×Int)} (h:(allErr D n).2.2=0) (h1:L.length≠prodN D n):chkErr D n L=3:=by unfold chkErr;rw [if_neg (by simpa using h),if_pos h1]
theorem ck2 {D:Nat→Dm} {n:Nat} {L:List (Int×Int)} (h:(allErr D n).2.2=0) (h1:L.length=prodN D n):chkErr D n L=if 0≤findFrom (goodB L) L.length 0 then 1 else 0:=by unfold chkErr;rw [if_neg (by simpa using h),if_neg (by simpa using h1)]
theorem find_none_all {p:Nat→Bool}:∀ m i,findFrom p m i<0→∀ j,i≤j→j<i+m→p j=false
 | 0,i,_,j,h1,h2=>by omega
 | m+1,i,h,j,h1,h2=>by
  cases hp:p i
  ·rw [findFrom_miss _ hp] at h
   by_cases e:j=i
   ·rw [e];exact hp
   ·exact find_none_all m (i+1) h j (by omega) (by omega)
  ·rw [findFrom_hit _ hp] at h;omega
theorem find_none_of {p:Nat→Bool}:∀ m i,(∀ j,i≤j→j<i+m→p j=false)→findFrom p m i<0
 | 0,i,_=>by simp [findFrom]
 | m+1,i,h=>by
  rw [findFrom_miss _ (h i (by omega) (by omega))]
  exact find_none_of m (i+1) fun j h1 h2=>h j (by omega) (by omega)
theorem chk_right {D:Nat→Dm} {n:Nat} {L:List (Int×Int)} (h:chkErr D n L=0):(allErr D n).2.2=0∧L.length=prodN D n∧goodL L:=by
 by_cases h1:(allErr D n).2.2=0
 ·by_cases h2:L.length=prodN D n
  ·refine ⟨h1,h2,fun c hc=>?_⟩
   rw [ck2 h1 h2] at h
   have h3:findFrom (goodB L) L.length 0<0:=by
    rcases Int.lt_or_le (findFrom (goodB L) L.length 0) 0 with h4 | h4
    ·exact h4
    ·rw [if_pos h4] at h;cases h
   obtain ⟨k,hk,rfl⟩:=List.getElem_of_mem hc
   have:=find_none_all _ _ h3 k (Nat.zero_le _) (by omega)
   unfold goodB at this
   rw [List.getD_eq_getElem?_getD,List.getElem?_eq_getElem hk] at this
   simpa [goodC] using this
  ·rw [ck1 h1 h2] at h;cases h
 ·rw [ck0 h1] at h;exact absurd h h1
theorem chk_ok {D:Nat→Dm} {n:Nat} {L:List (Int×Int)} (h1:(allErr D n).2.2=0) (h2:L.length=prodN D n) (h3:goodL L):chkErr D n L=0:=by
 rw [ck2 h1 h2,if_neg]
 have:=find_none_of (p:=goodB L) L.length 0 fun j _ hj=>by
  unfold goodB
  have hg:=good_at h3 (j:Int)
  unfold cAt goodC at hg
  rw [show ((j:Int)).toNat=j by omega] at hg
  unfold noC
  rw [hg]
  rfl
 omega
set_option maxHeartbeats 4000000 in
theorem fcheck_any (A0:Option Addr) (cap n:Nat) (D:Nat→Dm) (A:Nat→Option Addr) (C:Nat→Nat) (AC:Option Addr) (cc:Nat) (L:List (Int×Int)) (w:World) (hM:DimsV w A0 cap n D A C) (hL:CelV w AC cc L) :
  Calls Tryz.prog 96 #[.agg #[.slice A0 n cap],.slice AC L.length cc] w fun e w'=>e=.returned (errV (chkErr D n L))∧Below w.heap.size w w':=by
 have hB0:=ownOut_below w A0 n cap 30
 have h:=pcells_any A0 cap n D A C (ownOut w A0 n cap 30) (hM.later hB0)
 have HB0:Hid (Below w.heap.size w (ownOut w A0 n cap 30)):=hB0
 have HLv:Hid (CelV w AC cc L):=hL
 by_cases he:(allErr D n).2.2=0
 ·obtain ⟨hn1,hn4,hp3,hd⟩:=allErr_some he
  have hcv:cellsV D n=(prodN D n:Int):=by unfold cellsV;rw [if_pos he]
  rw [he,errV_zero,hcv] at h
  have HA:Hid ((allErr D n).2.2=0):=he
  have hl63:(L.length:Int)≤9223372036854775807:=by have:=hL.1;have:=hL.2.1;omega
  clear hcv hd he hM hB0 hL
  by_cases hl:L.length=prodN D n
  ·have HR:Hid (chkErr D n L=if 0≤findFrom (goodB L) L.length 0 then 1 else 0):=ck2 HA.out hl
   have HLN:Hid (L.length=prodN D n):=hl
   rw [←hl] at h hp3
   obtain ⟨N,hN⟩:∃ N,L.length=N:=⟨_,rfl⟩
   have HN:Hid (L.length=N):=hN
   rw [hN] at h hp3 HR hl63 ⊢
   have hne:((N:Int) != (N:Int))=false:=by simp
   have hN':(N:Int)≤3000:=by omega
   clear hl hN
   go_enter Tryz.func96,Tryz.ntmps96
   go_wp2_with fail
   refine h.mono ?_
   rintro e w1 ⟨rfl,hb1⟩
   have HB:Hid (Below w.heap.size w w1):=onB HB0.out hb1
   have HLw:Hid (CelV w1 AC cc L):=HLv.out.later HB.out
   clear hb1 h
   go_wp2_with fail
   go_loopg [25] N (fun g s25 wr => ∃ (k:Nat),k≤N∧g=N-k∧s25=.int .i64 k∧Hid (findFrom (goodB L) (N-k) k=findFrom (goodB L) N 0)∧Below w1.heap.size w1 wr)
   case atStart=>exact ⟨0,Nat.zero_le _,rfl,rfl,(rfl:findFrom (goodB L) (N-0) 0=findFrom (goodB L) N 0),Below.refl _ _⟩
   case round =>
    obtain ⟨k,hk,rfl,rfl,HF,hBw⟩:=hrel
    have HW:Hid (Below w1.heap.size w1 wr):=hBw
    by_cases hlt:k<N
    ·have hki:(k:Int)<(N:Int):=by omega
     have hkL:k<L.length:=by rw [HN.out];exact hlt
     obtain ⟨hcc,hc63,h0 | ⟨b,o,rfl,hA⟩⟩:=HLw.out.later hBw
     ·rw [h0] at hkL;simp at hkL
     rw [HN.out] at hcc
     obtain ⟨c1,c2⟩:=hA.2 k hkL
     have hgb:goodB L k = !(good (L.getD k noC).1 (L.getD k noC).2):=rfl
     have HSK:Hid (N-k=(N-(k+1))+1):=by show _=_;omega
     generalize (L.getD k noC).1=ck at c1 hgb
     generalize (L.getD k noC).2=cn at c2 hgb
     have HBa:Hid (Below wr.heap.size wr (wr.alloc (.cells #[.int .i64 ck,.int .i64 cn] 40))):=by show Below _ _ _;go_grown
     have hch:=check_any ck cn
     cases hg:good ck cn
     ·rw [hg] at hch hgb
      simp only [Bool.false_eq_true,if_false] at hch
      have HK:Hid (goodB L k=true):=hgb
      clear hA hBw hgb hg
      go_wp2_with fail
      refine (hch _).mono ?_
      rintro e w2 ⟨rfl,hb2⟩
      have HB2:Hid (Below wr.heap.size wr w2):=onB (by go_grown) hb2
      clear hb2
      go_wp2_with fail
      go_ret
      refine ⟨?_,onB HB.out (onB HW.out HB2.out)⟩
      rw [HR.out,←HF.out,HSK.out,findFrom_hit _ HK.out,if_pos (by omega)]
      rfl
     ·rw [hg] at hch hgb
      simp only [if_true] at hch
      have HK:Hid (goodB L k=false):=hgb
      clear hA hBw hgb hg
      go_wp2_with fail
      refine (hch _).mono ?_
      rintro e w2 ⟨rfl,hb2⟩
      have HB2:Hid (Below wr.heap.size wr w2):=onB (by go_grown) hb2
      clear hb2
      go_wp2_with fail
      go_roundg (N-(k+1))
      case measure=>omega
      case rel=>exact ⟨k+1,by omega,rfl,by go_num,(by rw [←HF.out,HSK.out,findFrom_miss _ HK.out]:findFrom (goodB L) (N-(k+1)) (k+1)=findFrom (goodB L) N 0),onB HW.out HB2.out⟩
    ·have hke:k=N:=by omega
     subst hke
     clear hBw
     go_wp2_with fail
     go_ret
     refine ⟨?_,onB HB.out HW.out⟩
     rw [HR.out,←HF.out,Nat.sub_self]
     rfl
  ·have HR:Hid (chkErr D n L=3):=ck1 HA.out hl
   have hne:((L.length:Int) != (prodN D n:Int))=true:=by simp;omega
   generalize L.length=N at hne hl63
   generalize prodN D n=pn at h hne hp3
   clear hl
   go_enter Tryz.func96,Tryz.ntmps96
   go_wp2_with fail
   refine h.mono ?_
   rintro e w1 ⟨rfl,hb1⟩
   have HB:Hid (Below w.heap.size w w1):=onB HB0.out hb1
   clear hb1 h
   go_wp2_with fail
   go_ret
   exact ⟨by rw [HR.out];rfl,HB.out⟩
 ·have HR:Hid (chkErr D n L=(allErr D n).2.2):=ck0 he
  have HE:Hid (errV (allErr D n).2.2=.iface 86 (.int .i64 (allErr D n).2.2)):=errV_some he
  rw [errV_some he] at h
  generalize L.length=N
  clear he hM hB0 hL
  generalize (allErr D n).2.2=c at h HE HR
  generalize cellsV D n=cv at h
  go_enter Tryz.func96,Tryz.ntmps96
  go_wp2_with fail
  refine h.mono ?_
  rintro e w1 ⟨rfl,hb1⟩
  have HB:Hid (Below w.heap.size w w1):=onB HB0.out hb1
  clear hb1 h
  go_wp2_with fail
  go_ret
  exact ⟨by rw [HR.out,HE.out];rfl,HB.out⟩
end Go.Proofs.YtfngmnhkhfgmjahGreatDoor
namespace Go.Proofs.YtfngmnhkhfgmjahGreatDoor
def rollStep (D:Nat→Dm) (n:Nat) (p:List Int) (c:Int×Int) (e:En):Int×Int:=if cntR D n p e=true then (1,c.2+valR D n p e) else c
theorem roll_steps (D:Nat→Dm) (n:Nat) (p:List Int) (l:List En):∀ c:Int×Int,l.foldl (rollStep D n p) c=(if l.any (cntR D n p)=true then 1 else c.1,c.2+rollN D n p l):=by
 induction l with
 | nil=>intro c;simp [rollN]
 | cons e r ih =>
  intro c
  rw [List.foldl_cons,ih,rollStep,rollN,List.any_cons]
  by_cases h:cntR D n p e=true
  ·simp only [h,Bool.true_or,if_true]
   refine Prod.ext ?_ (by simp only;omega)
   simp only
   split <;> rfl
  ·simp only [h,Bool.false_eq_true,if_false] at *
   simp
theorem roll_fold (D:Nat→Dm) (n:Nat) (l:List En) (p:List Int):l.foldl (rollStep D n p) (0,0)=rollV D n l p:=by
 rw [roll_steps]
 unfold rollV rollK
 simp
def lfs (D:Nat→Dm) (p:List Int) (i:Nat):List Int:=leafsOf (D i).mem (D i).n (p.getD i 0)
def cnts (d:Dm) (i:Int) (X:List Int):List Int:=(List.range d.n).map fun (k:Nat)=>if (k:Int)∈X then weightOf d.mem i (k:Int) else 0
theorem cnts_len (d:Dm) (i:Int) (X:List Int):(cnts d i X).length=d.n:=by simp [cnts]
theorem cnts_nil (d:Dm) (i:Int):cnts d i []=List.replicate d.n 0:=by
 apply List.ext_getElem
 ·simp [cnts]
 ·intro j h1 h2;simp [cnts]
theorem cnts_at {d:Dm} {i:Int} {X:List Int} {k:Nat} (hk:k<d.n):(cnts d i X).getD k 0=if (k:Int)∈X then weightOf d.mem i k else 0:=by
 simp [cnts,List.getD,hk]
theorem cnts_set {d:Dm} {i:Int} {X:List Int} {k:Nat}:(cnts d i X).set k (weightOf d.mem i k)=cnts d i (X ++ [(k:Int)]):=by
 apply List.ext_getElem
 ·simp [cnts]
 ·intro j h1 h2
  rw [List.getElem_set]
  by_cases e:k=j
  ·subst e;simp [cnts]
  ·have e' : ¬ ((j:Int)=(k:Int)):=by omega
   rw [if_neg e];simp [cnts,e']
theorem lfs_mem {D:Nat→Dm} {p:List Int} {i:Nat}:∀ j∈lfs D p i,∃ m:Nat,j=m∧m<(D i).n∧leafIn (D i).mem (D i).n (p.getD i 0) m=true:=selTo_mem
theorem lfs_len (D:Nat→Dm) (p:List Int) (i:Nat):(lfs D p i).length≤(D i).n:=selTo_len _ _
def wts (D:Nat→Dm) (p:List Int) (i:Nat):List Int:=cnts (D i) (p.getD i 0) (lfs D p i)
theorem wts_at {D:Nat→Dm} {p:List Int} {i k:Nat} (hk:k<(D i).n) (hl:leafB (D i).mem (D i).n k=true):(wts D p i).getD k 0=weightOf (D i).mem (p.getD i 0) k:=by
 unfold wts
 rw [cnts_at hk]
 by_cases h:(k:Int)∈lfs D p i
 ·rw [if_pos h]
 ·rw [if_neg h]
  have h1:inB (pathOf (D i).mem k) (p.getD i 0)=false:=by
   cases hb:inB (pathOf (D i).mem k) (p.getD i 0)
   ·rfl
   ·exact absurd (sel_in hk (by unfold leafIn;rw [hl,hb];rfl)) h
  have h2:p.getD i 0∉pathOf (D i).mem k:=by unfold inB at h1;exact of_decide_eq_false h1
  rw [weightOf,wgt_out _ h2]
theorem wts_small {D:Nat→Dm} {n:Nat} (hR:(allErr D n).2.2=0) (p:List Int) {i:Nat} (hi:i<n) (k:Nat) : -1≤(wts D p i).getD k 0∧(wts D p i).getD k 0≤1:=by
 by_cases hk:k<(D i).n
 ·unfold wts
  rw [cnts_at hk]
  split
  ·have hd:=(allErr_right hR).2 i hi
   refine wgt_small (Sg.of hd) _ _ (fun j hj=>?_) 1 (by omega)
   have:=pathOf_mem (Tr.of hd) (D i).n k (by omega) (by omega) j hj
   omega
  ·omega
 ·have:(wts D p i).getD k 0=0:=by unfold wts;rw [List.getD_eq_getElem?_getD,List.getElem?_eq_none (by rw [cnts_len];omega)];rfl
  rw [this];omega
def prTo (R:Nat→List Int) (q:List Int):Nat→Int
 | 0=>1
 | k+1=>prTo R q k*(R k).getD (q.getD k 0).toNat 0
theorem pr_wts {D:Nat→Dm} {n:Nat} {q:List Int} (hq:InO D n q) (hl:leafV D n q=true) (p:List Int):∀ k,k≤n→prTo (wts D p) q k=pwTo D p q k
 | 0,_=>rfl
 | k+1,hk=>by
  have hlo:=hq.lo k (by omega)
  have hhi:=hq.hi k (by omega)
  rw [prTo,pwTo,pr_wts hq hl p k (by omega),wts_at (by omega) (leaf_each hl k (by omega)),show ((q.getD k 0).toNat:Int)=q.getD k 0 by omega]
theorem prTo_small {D:Nat→Dm} {n:Nat} (hR:(allErr D n).2.2=0) (p q:List Int):∀ k,k≤n→-1≤prTo (wts D p) q k∧prTo (wts D p) q k≤1
 | 0,_=>by simp [prTo]
 | k+1,hk=>by
  rw [prTo]
  exact small_mul (prTo_small hR p q k (by omega)) (wts_small hR p (by omega) _)
theorem roll_none {D:Nat→Dm} {n:Nat} {p:List Int}:∀ {l:List En},l.any (cntR D n p)=false→rollN D n p l=0
 | [],_=>rfl
 | e :: r,h=>by
  rw [List.any_cons,Bool.or_eq_false_iff] at h
  rw [rollN,roll_none h.2,if_neg (by rw [h.1];simp)]
  rfl
end Go.Proofs.YtfngmnhkhfgmjahGreatDoor
namespace Go.Proofs.YtfngmnhkhfgmjahGreatDoor
open Go.ChangeShapes Go.WideShapes Go.ChangeAt Go.RowKit
theorem At.new (k n:Int) (w:World) (T:Nat):At w.heap.size k n (w.alloc (.cells #[.int .i64 k,.int .i64 n] T)):=⟨by simp,by simp,by simp⟩
theorem At.set {s:Nat} {k n:Int} {w:World} {u v:Value} (hs:s<w.heap.size) (h0:w.cell? ⟨s,0,none⟩=some u) (h1:w.cell? ⟨s,1,none⟩=some v):At s k n ((w.setCell ⟨s,0,none⟩ (.int .i64 k)).setCell ⟨s,1,none⟩ (.int .i64 n)):=by
 refine ⟨by simpa using hs,?_,?_⟩ <;> simp [go_sem,h0,h1]
end Go.Proofs.YtfngmnhkhfgmjahGreatDoor
namespace Go.Proofs.YtfngmnhkhfgmjahGreatDoor
open Go.ChangeShapes Go.WideShapes Go.ChangeAt Go.RowKit
set_option maxRecDepth 20000
def omA:Mem:=⟨⟨#[98]⟩,-1,0,⟨#[99,43,49]⟩⟩
def omB:Mem:=⟨⟨#[99]⟩,-1,0,⟨#[]⟩⟩
def oneM (i:Nat):Mem:=if i=0 then omA else omB
def oneDm:Dm:=⟨⟨#[97]⟩,0,2,oneM⟩
theorem one_nd:ndL oneDm=[[1],[]]:=by decide +kernel
theorem one_acyc (i:Nat):cycB (ndL oneDm) i=false:=by
 rw [one_nd]
 refine up_acyc (fun a x hx=>?_) i
 unfold rowN at hx
 rcases h:a.toNat with _ | _ | k
 ·rw [h] at hx
  simp at hx
  omega
 ·rw [h] at hx
  simp at hx
 ·rw [h] at hx
  simp at hx
end Go.Proofs.YtfngmnhkhfgmjahGreatDoor
namespace Go.Proofs.YtfngmnhkhfgmjahGreatDoor
theorem set_last {l:List En} {p:List Int} (h:∀ e∈l,lessL e.pl p=true) (x:Int):setL l p x=l ++ [⟨p,x⟩]:=by
 have hw:l.takeWhile (fun e=>lessL e.pl p)=l:=by
  induction l with
  | nil=>rfl
  | cons e r ih=>rw [List.takeWhile_cons,if_pos (h e (List.mem_cons_self ..)),ih fun y hy=>h y (List.mem_cons_of_mem _ hy)]
 have hc:cntE l p=l.length:=by unfold cntE;rw [hw]
 have hh:hasE l p=false:=by unfold hasE;rw [hc,List.drop_length]
 unfold setL
 rw [hh,hc]
 simp
end Go.Proofs.YtfngmnhkhfgmjahGreatDoor
namespace Go.Proofs.YtfngmnhkhfgmjahGreatDoor
open Go.ChangeShapes Go.WideShapes Go.ChangeAt Go.RowKit
set_option maxRecDepth 20000
theorem Tryz.infoEd:(Tryz.prog.info? 37).map (fun i=>(i.zero,i.size,i.bytes))=some (some (.agg #[.slice none 0 0,.int .i64 0,.bool false]),3,40):=by kernel_rfl
def cellsX:List EdL→List Value
 | []=>[]
 | y :: r=>.slice y.A y.x.pl.length y.c :: .int .i64 y.x.n :: .bool y.x.clear :: cellsX r
theorem cellsX_append (a b:List EdL):cellsX (a ++ b)=cellsX a ++ cellsX b:=by
 induction a with
 | nil=>rfl
 | cons x r ih=>simp [cellsX,ih]
theorem cellsX_at (ys:List EdL):∀ k,k<ys.length→(cellsX ys)[k*3]?=some (.slice (ys.getD k noD).A (ys.getD k noD).x.pl.length (ys.getD k noD).c)∧(cellsX ys)[k*3+1]?=some (.int .i64 (ys.getD k noD).x.n)∧(cellsX ys)[k*3+2]?=some (.bool (ys.getD k noD).x.clear):=by
 induction ys with
 | nil=>intro k hk;cases hk
 | cons x r ih =>
  intro k hk
  cases k with
  | zero=>simp [cellsX]
  | succ k =>
   rw [show (k+1)*3=k*3+1+1+1 by omega]
   simp only [cellsX,List.getElem?_cons_succ,List.getD_cons_succ]
   exact ih k (by simpa using hk)
end Go.Proofs.YtfngmnhkhfgmjahGreatDoor
namespace Go.Proofs.YtfngmnhkhfgmjahGreatDoor
open Go Go.ChangeShapes Go.WideShapes Go.ChangeAt Go.RowKit Go.Deep
set_option maxRecDepth 100000
section
variable {H:Type} {enc:TypeId×Value→H} {w:World} {held:Bool}
def LowW (t:Nat) (d:DataW H):Prop := ∀ k∈d.weights Tryz.prog t,k≤reachBytes
theorem weights_all {P:Program} {e:TypeId} {n:Nat}:∀ {l:List (DataW H)} {d:DataW H},d∈l→n∈d.weights P e→n∈DataW.weightsAll P e l
 | x :: r,d,h,hn=>by
  rw [DataW.weightsAll,List.mem_append]
  rcases List.mem_cons.1 h with rfl | h
  ·exact Or.inl hn
  ·exact Or.inr (weights_all h hn)
theorem bytesM:Tryz.prog.bytesOf 65=48:=by kernel_rfl
theorem members_z {fuel:Nat} {A:Option Addr} {n cap:Nat} {x:DataW H×List MemPlace} (h:DataW.trod enc Tryz.prog w 0 (fun _=>true) held fuel 61 [.slice A n cap]=some x) (hz:LowW 61 x.1):n*48≤reachBytes:=by
 rcases open_slice Tryz.underlying61 h with ⟨h1,-⟩ | ⟨a,len,cap,m,k,D,Pl,h1,-,hl,-,hm,rfl,-⟩
 ·simp at h1
  rw [h1.2.1]
  exact Nat.zero_le _
 ·simp at h1
  have h2:=hz ((((List.range len).map D).length+((List.range (m-len)).map fun j=>D (len+j)).length)*Tryz.prog.bytesOf 65) (by simp [DataW.weights,Tryz.underlying61])
  rw [bytesM] at h2
  simp at h2
  rw [h1.2.1]
  omega
theorem dim_z {fuel:Nat} {d:Dm} {A:Option Addr} {c:Nat} {x:DataW H×List MemPlace} (h:DataW.trod enc Tryz.prog w 0 (fun _=>true) held fuel 63 [.string d.name,.int .i64 d.solve,.slice A d.n c]=some x) (hz:LowW 63 x.1):d.n*48≤reachBytes:=by
 obtain ⟨y0,y1,y2,n,rfl,-,-,-,h2⟩:=trod_struct3 Tryz.underlying63 h
 refine members_z (A:=A) (cap:=c) (x:=y2) (fuel:=n) h2 fun k hk=>hz k ?_
 simp only [DataW.weights,Tryz.underlying63]
 exact DataW.weights_mem_each (j:=2) rfl rfl k hk
theorem dims_z {fuel:Nat} {A0:Option Addr} {n cap:Nat} {D:Nat→Dm} {A:Nat→Option Addr} {C:Nat→Nat} {x:DataW H×List MemPlace} (h:DataW.trod enc Tryz.prog w 0 (fun _=>true) held fuel 28 [.slice A0 n cap]=some x) (hD:DimsV w A0 cap n D A C) (hz:LowW 28 x.1):∀ i,i<n→(D i).n*48≤reachBytes:=by
 intro i hi
 rcases open_slice Tryz.underlying28 h with ⟨h1,-⟩ | ⟨a,len,cap',m,k,E,Pl,h1,-,hl,-,hm,rfl,hx⟩
 ·simp at h1
  omega
 ·simp at h1
  obtain ⟨rfl,rfl,rfl⟩:=h1
  obtain ⟨cs',c1,c2⟩:=hx i (by simp at hm;omega)
  rw [cellsD] at c1
  obtain ⟨-,h0 | ⟨b,o,hb,hMs⟩⟩:=hD
  ·omega
  simp at hb
  subst hb
  obtain ⟨d0,d1,d2,-⟩:=hMs.2 i hi
  have hc:=(World.cells?_some c1)
  have e:cs'=[.string (D i).name,.int .i64 (D i).solve,.slice (A i) (D i).n (C i)]:=by
   have hl3:=hc.2.1
   have g:∀ j,j<3→w.cell? ⟨b,o+i*3+j,none⟩=cs'[j]?:=fun j hj=>by
    have:=hc.2.2 j hj
    rw [plain_add,plain_add] at this
    exact this
   match cs',hl3,g with
   | [v0,v1,v2],_,g =>
    have e0:=(g 0 (by omega)).symm.trans d0
    have e1:=(g 1 (by omega)).symm.trans d1
    have e2:=(g 2 (by omega)).symm.trans d2
    simp at e0 e1 e2
    rw [e0,e1,e2]
  rw [e] at c2
  refine dim_z c2 fun q hq=>hz q ?_
  simp only [DataW.weights,Tryz.underlying28]
  refine List.mem_cons_of_mem _ (List.mem_append.2 (Or.inl (weights_all (d:=E i) (List.mem_map.2 ⟨i,List.mem_range.2 hi,rfl⟩) hq)))
theorem outline_z {d:DataW H} {p:List MemPlace} {A0:Option Addr} {n cap:Nat} {D:Nat→Dm} {A:Nat→Option Addr} {C:Nat→Nat} (h:DataW.Trod enc Tryz.prog w 0 (fun _=>true) held 30 (.agg #[.slice A0 n cap]) d p) (hD:DimsV w A0 cap n D A C) (hz:LowW 30 d):∀ i,i<n→(D i).n*48≤reachBytes:=by
 obtain ⟨fuel,hf⟩:=h
 obtain ⟨xs,k,_,hx,hl,hlen,hfs⟩:=DataW.trod_struct Tryz.underlying30 hf
 match xs,hlen with
 | [y],_ =>
  have h0:=hfs 0 _ rfl
  have h1:DataW.trod enc Tryz.prog w 0 (fun _=>true) held k 28 [.slice A0 n cap]=some y:=h0
  have hd:d=.agg [y.1]:=by
   have:=congrArg Prod.fst hx
   exact this
  refine dims_z h1 hD fun q hq=>hz q ?_
  rw [hd]
  simp only [DataW.weights,Tryz.underlying30]
  exact DataW.weights_mem_each (j:=0) rfl rfl q hq
end
section
variable {H:Type} {enc:TypeId×Value→H} {w:World} {held:Bool}
theorem outline_cap {d:DataW H} {p:List MemPlace} {A0:Option Addr} {n cap:Nat} (h:DataW.Trod enc Tryz.prog w 0 (fun _=>true) held 30 (.agg #[.slice A0 n cap]) d p):n≤9223372036854775807:=by
 obtain ⟨fuel,hf⟩:=h
 obtain ⟨xs,k,_,hx,hl,hlen,hfs⟩:=DataW.trod_struct Tryz.underlying30 hf
 match xs,hlen with
 | [y],_ =>
  have h0:=hfs 0 _ rfl
  have h1:DataW.trod enc Tryz.prog w 0 (fun _=>true) held k 28 [.slice A0 n cap]=some y:=h0
  rcases open_slice Tryz.underlying28 h1 with ⟨e,-⟩ | ⟨a,len,cap',m,k,E,Pl,e,-,hl,hcm,-⟩
  ·simp at e
   omega
  ·simp at e
   obtain ⟨rfl,rfl,rfl⟩:=e
   unfold maxLen at hcm
   omega
end
end Go.Proofs.YtfngmnhkhfgmjahGreatDoor
