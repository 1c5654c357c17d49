/-
  A law's end by 'Below': where nothing old has turned and the row asks for no second call, the results, the arguments and the frame are enough.
-/
import Derived.Lib.Strings
import Derived.Deep.Slices
import Derived.Deep.Strs
import Derived.Deep.Fields
import Derived.BigQuiet
import Derived.Shelf.Small.Strs
import Derived.Test.YtenlladggdcfnaaGreatDoorJAAC
import Derived.Test.YtenlladggdcfnaaGreatDoorJAAE
namespace Go.Proofs.YtenlladggdcfnaaGreatDoor
open Go Go.ChangeShapes Go.WideShapes Go.ChangeAt Go.RowKit
theorem post_below {H:Type} {enc:TypeId×Value→H} {P:Program} {f:Func} {s:ChangeSpec} {apart fresh handsOn:Bool} {W W':World} {args:Array Value} {v:Value} {ds gs:List (DataW H)} {before pa pv:List MemPlace}
  (hW:DataW.Whole enc P f.params.toList s.vars apart W args.toList ds gs before)
  (hres:∀ (b:Nat) (sp:Nat→Bool) (hd:Bool),DataW.TrodAll enc P W' b sp hd f.resultTypes.toList (v.resultList f.resultTypes.size) (s.fn H (ds ++ gs)).results [])
  (hargs:∀ sp:Nat→Bool,(∀ p∈before,sp p.block=true)→DataW.TrodAll enc P W' 0 sp true f.params.toList args.toList (s.fn H (ds ++ gs)).args pa)
  (hvars:∀ sp:Nat→Bool,(∀ p∈before,sp p.block=true)→DataW.TrodVars enc P W' sp s.vars (s.fn H (ds ++ gs)).vars pv)
  (hps:before=pa ++ pv) (hk:W.keptBut W' (·∈before)) :
  s.post enc P f apart fresh handsOn false W args v W':=by
 have hold:∀ p∈before,(fun b=>decide (b<W.heap.size)) p.block=true:=fun p hp=>by simpa using hW.lt p hp
 refine ⟨ds,gs,before,[],pa,pv,hW,hres _ _ _,hargs _ hold,hvars _ hold,World.keptBut_mono (fun p hp=>⟨hp,?_⟩) hk,fun h=>by cases h⟩
 rw [hps,List.mem_append] at hp
 exact Or.inr hp
end Go.Proofs.YtenlladggdcfnaaGreatDoor
namespace Go.Proofs.YtenlladggdcfnaaGreatDoor
def numTo (D:Nat→Dm) (P:Nat→Nat):Nat→Nat
 | 0=>0
 | k+1=>numTo D P k*(D k).n+P k
theorem numTo_lt {D:Nat→Dm} {P:Nat→Nat} (k:Nat) (h:∀ j,j<k→P j<(D j).n):numTo D P k<prodN D k:=by
 induction k with
 | zero=>exact Nat.one_pos
 | succ k ih =>
  have h1:=ih fun j hj=>h j (by omega)
  have h2:=h k (by omega)
  rw [numTo,prodN]
  have h3:(numTo D P k+1)*(D k).n≤prodN D k*(D k).n:=Nat.mul_le_mul_right _ h1
  rw [Nat.add_mul] at h3
  omega
def restAt (D:Nat→Dm) (m n:Nat):Nat→Nat
 | 0=>n
 | r+1=>restAt D m n r / (D (m-1-r)).n
def digitAt (D:Nat→Dm) (m n k:Nat):Nat:=restAt D m n (m-1-k) % (D k).n
theorem restAt_num {D:Nat→Dm} {P:Nat→Nat} {m:Nat} (h:∀ j,j<m→P j<(D j).n) (r:Nat):r≤m→restAt D m (numTo D P m) r=numTo D P (m-r):=by
 induction r with
 | zero=>intro _;rfl
 | succ r ih =>
  intro hr
  rw [restAt,ih (by omega)]
  have e:m-r=(m-1-r)+1:=by omega
  rw [e,numTo,show m-(r+1)=m-1-r by omega]
  have hp:=h (m-1-r) (by omega)
  rw [Nat.mul_comm,Nat.mul_add_div (by omega),Nat.div_eq_of_lt hp,Nat.add_zero]
theorem digit_num {D:Nat→Dm} {P:Nat→Nat} {m:Nat} (h:∀ j,j<m→P j<(D j).n) {k:Nat} (hk:k<m):digitAt D m (numTo D P m) k=P k:=by
 unfold digitAt
 rw [restAt_num h _ (by omega),show m-(m-1-k)=k+1 by omega,numTo]
 have hp:=h k hk
 rw [Nat.mul_comm,Nat.mul_add_mod,Nat.mod_eq_of_lt hp]
theorem num_digit {D:Nat→Dm} {m n:Nat} (hn:n<prodN D m) (k:Nat):k≤m→numTo D (digitAt D m n) k=restAt D m n (m-k):=by
 have hlt:∀ r,r≤m→restAt D m n r<prodN D (m-r):=by
  intro r
  induction r with
  | zero=>intro _;exact hn
  | succ r ih =>
   intro hr
   have h1:=ih (by omega)
   have e:m-r=(m-1-r)+1:=by omega
   rw [e,prodN] at h1
   rw [restAt,show m-(r+1)=m-1-r by omega]
   exact Nat.div_lt_of_lt_mul (by rw [Nat.mul_comm];exact h1)
 induction k with
 | zero =>
  intro _
  have h1:=hlt m (Nat.le_refl _)
  rw [Nat.sub_self] at h1
  have h2:prodN D 0=1:=rfl
  rw [numTo,Nat.sub_zero]
  omega
 | succ k ih =>
  intro hk
  rw [numTo,ih (by omega)]
  have e:m-k=(m-1-k)+1:=by omega
  rw [e,restAt,show m-1-(m-1-k)=k by omega,show m-(k+1)=m-1-k by omega]
  unfold digitAt
  have:=Nat.div_add_mod (restAt D m n (m-1-k)) (D k).n
  rw [Nat.mul_comm] at this
  exact this
theorem num_back {D:Nat→Dm} {m n:Nat} (hn:n<prodN D m):numTo D (digitAt D m n) m=n:=by
 rw [num_digit hn m (Nat.le_refl _),Nat.sub_self];rfl
theorem digit_lt {D:Nat→Dm} {m n k:Nat} (h:1≤(D k).n):digitAt D m n k<(D k).n:=Nat.mod_lt _ h
def outP (D:Nat→Dm) (L:List Int) (i:Nat):Bool:=decide (L.getD i 0<0) || decide (((D i).n:Int)≤L.getD i 0)
def shapeErr (D:Nat→Dm) (n:Nat) (L:List Int):Int:=if L.length≠n then 3 else if 0≤findFrom (outP D L) n 0 then 1 else 0
def placeErr (D:Nat→Dm) (n:Nat) (L:List Int):Int:=if (allErr D n).2.2≠0 then (allErr D n).2.2 else shapeErr D n L
theorem sh0 {D:Nat→Dm} {n:Nat} {L:List Int} (h:L.length≠n):shapeErr D n L=3:=by unfold shapeErr;rw [if_pos h]
theorem sh1 {D:Nat→Dm} {n:Nat} {L:List Int} (h:L.length=n) (h1:0≤findFrom (outP D L) n 0):shapeErr D n L=1:=by unfold shapeErr;rw [if_neg (by simpa using h),if_pos h1]
theorem sh2 {D:Nat→Dm} {n:Nat} {L:List Int} (h:L.length=n) (h1 : ¬ 0≤findFrom (outP D L) n 0):shapeErr D n L=0:=by unfold shapeErr;rw [if_neg (by simpa using h),if_neg h1]
theorem pe0 {D:Nat→Dm} {n:Nat} {L:List Int} (h:(allErr D n).2.2≠0):placeErr D n L=(allErr D n).2.2:=by unfold placeErr;rw [if_pos h]
theorem pe1 {D:Nat→Dm} {n:Nat} {L:List Int} (h:(allErr D n).2.2=0):placeErr D n L=shapeErr D n L:=by unfold placeErr;rw [if_neg (by simpa using h)]
structure InO (D:Nat→Dm) (n:Nat) (L:List Int):Prop where
 right:(allErr D n).2.2=0
 len:L.length=n
 lo:∀ i,i<n→0≤L.getD i 0
 hi:∀ i,i<n→L.getD i 0<((D i).n:Int)
theorem allErr_some {D:Nat→Dm} {n:Nat} (h:(allErr D n).2.2=0):1≤n∧n≤4∧prodN D n≤3000∧∀ i,i<n→1≤(D i).n∧(D i).n≤12:=by
 have h4:=allErr_right h
 unfold allErr at h
 split at h
 ·simp at h
 ·split at h
  ·simp at h
  ·split at h
   ·rename_i h3;exact absurd h h3
   ·split at h
    ·simp at h
    ·rename_i a b c d
     exact ⟨by omega,by omega,by omega,fun i hi=>⟨(dimErr_right (h4.2 i hi)).2.1,(dimErr_right (h4.2 i hi)).2.2.1⟩⟩
theorem inO_of {D:Nat→Dm} {n:Nat} {L:List Int} (h:placeErr D n L=0):InO D n L:=by
 unfold placeErr at h
 split at h
 ·rename_i h1;exact absurd h h1
 ·rename_i h1
  unfold shapeErr at h
  split at h
  ·cases h
  ·split at h
   ·cases h
   ·rename_i h2 h3
    have hn:∀ i,i<n→outP D L i=false:=fun i hi=>by
     rcases findFrom_cases (outP D L) n 0 with ⟨_,h4⟩ | ⟨k,h4,_⟩
     ·exact h4 i (Nat.zero_le _) (by omega)
     ·rw [h4] at h3;omega
    exact ⟨by simpa using h1,by simpa using h2,fun i hi=>by have:=hn i hi;simp [outP,-List.getD_eq_getElem?_getD] at this;omega,fun i hi=>by have:=hn i hi;simp [outP,-List.getD_eq_getElem?_getD] at this;omega⟩
theorem InO.ok {D:Nat→Dm} {n:Nat} {L:List Int} (h:InO D n L):placeErr D n L=0:=by
 rw [pe1 h.right,sh2 h.len]
 rw [findFrom_none]
 ·decide
 ·intro j _ hj
  have h1:=h.lo j (by omega)
  have h2:=h.hi j (by omega)
  simp [outP,-List.getD_eq_getElem?_getD]
  omega
def numI (D:Nat→Dm) (L:List Int):Nat→Int
 | 0=>0
 | k+1=>numI D L k*((D k).n:Int)+L.getD k 0
theorem numI_nat {D:Nat→Dm} {L:List Int} (k:Nat) (h:∀ i,i<k→0≤L.getD i 0):numI D L k=(numTo D (fun i=>(L.getD i 0).toNat) k:Int):=by
 induction k with
 | zero=>rfl
 | succ k ih =>
  have:=h k (by omega)
  rw [numI,numTo,ih fun i hi=>h i (by omega),Int.natCast_add,Int.natCast_mul,Int.toNat_of_nonneg this]
theorem prodN_small {D:Nat→Dm} {k:Nat} (h:∀ j,j<k→(D j).n≤12) (hk:k≤4):prodN D k≤20736:=by
 have h1:=prodN_le h
 have h2:12 ^ k≤12 ^ 4:=Nat.pow_le_pow_right (by decide) hk
 have h3:(12:Nat) ^ 4=20736:=by decide
 omega
theorem numI_bound {D:Nat→Dm} {n:Nat} {L:List Int} (h:InO D n L) {k:Nat} (hk:k≤n):0≤numI D L k∧numI D L k<(prodN D k:Int)∧prodN D k≤20736:=by
 obtain ⟨_,h4,_,hd⟩:=allErr_some h.right
 rw [numI_nat k fun i hi=>h.lo i (by omega)]
 have h1:=numTo_lt (D:=D) (P:=fun i=>(L.getD i 0).toNat) k fun j hj=>by
  have:=h.lo j (by omega)
  have:=h.hi j (by omega)
  omega
 refine ⟨by omega,by omega,prodN_small (fun j hj=>(hd j (by omega)).2) (by omega)⟩
def numV (D:Nat→Dm) (n:Nat) (L:List Int):Int:=if placeErr D n L=0 then numI D L n else 0
def digL (D:Nat→Dm) (n x r:Nat):List Int:=(List.range n).map fun j=>if n-r≤j then (digitAt D n x j:Int) else 0
def placeL (D:Nat→Dm) (n x:Nat):List Int:=(List.range n).map fun j=>(digitAt D n x j:Int)
theorem digL_len (D:Nat→Dm) (n x r:Nat):(digL D n x r).length=n:=by simp [digL]
theorem placeL_len (D:Nat→Dm) (n x:Nat):(placeL D n x).length=n:=by simp [placeL]
theorem digL_zero (D:Nat→Dm) (n x:Nat):digL D n x 0=List.replicate n 0:=by
 apply List.ext_getElem
 ·simp [digL]
 ·intro i h1 h2
  simp [digL] at h1 ⊢
  omega
theorem digL_all (D:Nat→Dm) (n x:Nat):digL D n x n=placeL D n x:=by simp [digL,placeL]
theorem digL_set (D:Nat→Dm) (n x r:Nat) (hr:r<n):(digL D n x r).set (n-1-r) (digitAt D n x (n-1-r):Int)=digL D n x (r+1):=by
 apply List.ext_getElem
 ·simp [digL]
 ·intro i h1 h2
  simp only [digL,List.length_set,List.length_map,List.length_range] at h1
  rw [List.getElem_set]
  simp only [digL,List.getElem_map,List.getElem_range]
  by_cases h3:n-1-r=i
  ·subst h3
   rw [if_pos rfl,if_pos (by omega)]
  ·rw [if_neg h3]
   by_cases h4:n-r≤i
   ·rw [if_pos h4,if_pos (by omega)]
   ·rw [if_neg h4,if_neg (by omega)]
theorem placeL_at {D:Nat→Dm} {n x i:Nat} (h:i<n):(placeL D n x).getD i 0=(digitAt D n x i:Int):=by
 simp [placeL,List.getD,h]
theorem placeL_in {D:Nat→Dm} {n x:Nat} (h:(allErr D n).2.2=0):InO D n (placeL D n x):=by
 obtain ⟨_,_,_,hd⟩:=allErr_some h
 exact ⟨h,placeL_len ..,fun i hi=>by rw [placeL_at hi];omega,fun i hi=>by rw [placeL_at hi];have:=digit_lt (D:=D) (m:=n) (n:=x) (k:=i) (hd i hi).1;omega⟩
theorem numTo_same {D:Nat→Dm} {P Q:Nat→Nat} (k:Nat) (h:∀ i,i<k→P i=Q i):numTo D P k=numTo D Q k:=by
 induction k with
 | zero=>rfl
 | succ k ih=>rw [numTo,numTo,ih fun i hi=>h i (by omega),h k (by omega)]
theorem num_place {D:Nat→Dm} {n x:Nat} (h:(allErr D n).2.2=0) (hx:x<prodN D n):numI D (placeL D n x) n=(x:Int):=by
 rw [numI_nat n (placeL_in h).lo,numTo_same (Q:=digitAt D n x) n fun i hi=>by rw [placeL_at hi];omega,num_back hx]
theorem place_num {D:Nat→Dm} {n:Nat} {L:List Int} (h:InO D n L):placeL D n (numI D L n).toNat=L:=by
 have h1:∀ j,j<n→(L.getD j 0).toNat<(D j).n:=fun j hj=>by have:=h.lo j hj;have:=h.hi j hj;omega
 rw [numI_nat n h.lo,Int.toNat_natCast]
 apply List.ext_getElem
 ·rw [placeL_len,h.len]
 ·intro i h2 h3
  rw [placeL_len] at h2
  have h4:=digit_num h1 h2
  have h5:=h.lo i h2
  have h6:L.getD i 0=L[i]:=by simp [List.getD,h3]
  simp only [placeL,List.getElem_map,List.getElem_range]
  rw [h4,←h6]
  omega
end Go.Proofs.YtenlladggdcfnaaGreatDoor
namespace Go.Proofs.YtenlladggdcfnaaGreatDoor
open Go.ChangeShapes Go.WideShapes Go.ChangeAt Go.RowKit
set_option maxRecDepth 20000
def IntsAt (w:World) (A:Option Addr) (cap:Nat) (L:List Int):Prop:=L.length≤cap∧(L=[]∨∃ b,A=some ⟨b,0,none⟩∧b<w.heap.size∧∀ j,j<L.length→w.cell? ⟨b,j,none⟩=some (.int .i64 (L.getD j 0)))
theorem IntsAt.later {w w':World} {A:Option Addr} {cap:Nat} {L:List Int} (h:IntsAt w A cap L) (hB:Below w.heap.size w w'):IntsAt w' A cap L:=by
 obtain ⟨h1,h2 | ⟨b,h2,h3,h4⟩⟩:=h
 ·exact ⟨h1,Or.inl h2⟩
 ·exact ⟨h1,Or.inr ⟨b,h2,Nat.lt_of_lt_of_le h3 hB.size,fun j hj=>(hB.cell (p:=⟨b,j,none⟩) h3).trans (h4 j hj)⟩⟩
theorem IntsAt.nil (w:World) (A:Option Addr) (cap:Nat):IntsAt w A cap []:=⟨Nat.zero_le _,Or.inl rfl⟩
def mapI (L:List Int):List Value:=L.map (Value.int .i64)
theorem mapI_snoc (L:List Int) (x:Int):mapI (L ++ [x])=mapI L ++ [Value.int .i64 x]:=by simp [mapI]
theorem ints_of {w:World} {base e:Nat} {v:Value} {L:List Int} (h:w.ownsRow base e 1 v L.length (mapI L)):∃ A cap,v=.slice A L.length cap∧IntsAt w A cap L:=by
 rcases h.2 with ⟨rfl,h0⟩ | ⟨g,cap,cur,rfl,hb,hg,hc,_,_,_⟩
 ·exact ⟨none,0,by rw [h0],by omega,Or.inl (List.eq_nil_of_length_eq_zero h0)⟩
 ·refine ⟨_,cap,rfl,hc,Or.inr ⟨g,rfl,(Array.getElem?_eq_some_iff.1 hg).1,fun j hj=>?_⟩⟩
  have hx:=h.cells (g:=g) rfl j (.int .i64 (L.getD j 0)) (by simp [mapI,List.getD,List.getElem?_eq_getElem hj])
  have hadd:(⟨g,0,none⟩:Addr).add j=⟨g,j,none⟩:=by unfold Addr.add;split <;> simp_all
  rw [hadd] at hx
  exact hx
theorem own_later {w w':World} {base e size:Nat} {v:Value} {n:Nat} {xs:List Value} (h:w.ownsRow base e size v n xs) (hB:Below w.heap.size w w'):w'.ownsRow base e size v n xs:=by
 refine ⟨h.1,?_⟩
 rcases h.2 with h0 | ⟨g,cap,cur,rfl,hb,hg,h1⟩
 ·exact Or.inl h0
 ·exact Or.inr ⟨g,cap,cur,rfl,hb,(hB.block g (Array.getElem?_eq_some_iff.1 hg).1).trans hg,h1⟩
theorem grown_own {w wr w1:World} {e size n:Nat} {v:Value} {xs:List Value} {o:Obj} (hB:Below w.heap.size w wr) (hown:wr.ownsRow w.heap.size e size v n xs) (hgrow:(wr.alloc o).grownBy w1 v.ownBlock):Below w.heap.size w w1 :=
 (hB.alloc hB.size o).grown hgrow (by have:=hB.size;simp;omega) (fun j hj=>(hown.lt j hj).1)
theorem one_cell {wr:World} {x:Value} {T:Nat}:∀ j u,[x][j]?=some u→(wr.alloc (.cells #[x] T)).cell? ((⟨wr.heap.size,0,none⟩:Addr).add j)=some u:=by
 intro j u hj
 match j,hj with
 | 0,hj=>simp at hj;subst hj;simp [Addr.add]
theorem one_one {x:Int}:∀ u∈[Value.int .i64 x],u.oneCell'=true:=by intro u hu;simp at hu;subst hu;rfl
theorem Tryz.infoInt:(Tryz.prog.info? 3).map (fun i=>(i.zero,i.size,i.bytes))=some (some (.int .i64 0),1,8):=by kernel_rfl
set_option maxHeartbeats 2000000 in
theorem path_any (b o n cap i:Nat) (M:Nat→Mem) (w:World) (hn:n≤12) (hi:i<n) (ht:Tr M n) (hM:MemsAt w b o n M):Calls Tryz.prog 102 #[.slice (some ⟨b,o,none⟩) n cap,.int .i64 i] w fun e w'=>(∃ A c,e=.returned (.slice A (pathOf M i).length c)∧IntsAt w' A c (pathOf M i))∧Below w.heap.size w w':=by
 obtain ⟨i0,hi0,hz0,hz1,hz2⟩:=info_parts Tryz.infoInt
 have HM:Hid (MemsAt w b o n M):=hM
 have HT:Hid (Tr M n):=ht
 have HL:Hid ((pathOf M i).length≤12):=by have:=pathOf_len ht n i (by omega) (by omega);show _≤_;omega
 have hn':(n:Int)≤12:=by omega
 clear hM ht
 go_enter Tryz.func102,Tryz.ntmps102
 go_wp2_with fail
 go_loopg [1,5] (i+1) (fun g s1 s5 wr => ∃ (k:Int) (L:List Int),-1≤k∧k<n∧g=(k+1).toNat∧s1=.int .i64 k∧L ++ pathOf M k=pathOf M i∧wr.ownsRow w.heap.size 3 1 s5 L.length (mapI L)∧Below w.heap.size w wr)
 case atStart=>exact ⟨i,[],by omega,by omega,by omega,rfl,rfl,World.ownsRow_nil _ _ _ _,Below.refl _ _⟩
 case round =>
  obtain ⟨k,L,hk1,hk2,rfl,rfl,hf,hown,hBw⟩:=hrel
  have HF:Hid (L ++ pathOf M k=pathOf M i):=hf
  have HW:Hid (Below w.heap.size w wr):=hBw
  clear hf
  by_cases h0:0≤k
  ·obtain ⟨m,rfl⟩:∃ m:Nat,k=m:=⟨k.toNat,by omega⟩
   have hmn:m<n:=by omega
   have HC:Hid (pathOf M m=(m:Int) :: pathOf M (M m).parent):=pathOf_cons HT.out hmn
   have hlen:L.length+1≤12:=by
    have h1:=HL.out
    rw [←HF.out,HC.out,List.length_append,List.length_cons] at h1
    omega
   have hsz:=hBw.size
   have hp:=HT.out m hmn
   clear hBw
   go_wp2_with (at_builtin;refine wpList_append_own _ rfl _ _ 22 rfl w.heap.size 3 i0 (.int .i64 0) 1 8 Tryz.underlying22 hi0 hz0 hz1 hz2 rfl (by decide) _ _ _ rfl (hown.alloc _) ⟨wr.heap.size,0,none⟩ 1 1 [.int .i64 m] rfl rfl one_cell one_one (by unfold maxLen;omega) (by omega) (by simp;omega) ?_)
   intro v' w1 hown' hgrow _
   have HB1:Hid (Below w.heap.size w w1):=grown_own HW.out hown hgrow
   have HO1:Hid (w1.ownsRow w.heap.size 3 1 v' (L ++ [(m:Int)]).length (mapI (L ++ [(m:Int)]))):=by
    show World.ownsRow ..
    rw [mapI_snoc,List.length_append];exact hown'
   obtain ⟨-,h1,-,-⟩:=(HM.out.later HB1.out).2 m hmn
   clear hown' hgrow hown
   go_wp2_with fail
   go_roundg ((M m).parent+1).toNat
   case measure=>omega
   case rel=>exact ⟨(M m).parent,L ++ [(m:Int)],by omega,by omega,rfl,rfl,by rw [←HF.out,HC.out];simp,HO1.out,HB1.out⟩
  ·have hk:k<0:=by omega
   go_wp2_with fail
   go_ret
   have hL:L=pathOf M i:=by rw [←HF.out,pathOf_neg hk];simp
   rw [←hL]
   obtain ⟨A,c,h1,h2⟩:=ints_of hown
   exact ⟨⟨A,c,by rw [←h1];rfl,h2⟩,HW.out⟩
def AskP (fn q r:Nat) (w:World) (n:Nat) (p:Nat→Bool):Prop := ∀ (i:Nat) (w':World),i<n→Below w.heap.size w w'→Calls Tryz.prog fn #[.int .i64 i,.pointer (some ⟨q,0,none⟩),.pointer (some ⟨r,0,none⟩)] w' fun e w''=>e=.returned (.bool (p i))∧Below w'.heap.size w' w''
set_option maxHeartbeats 2000000 in
theorem places_any (fn q r:Nat) (he:EntersO fn) (A:Option Addr) (n cap:Nat) (p:Nat→Bool) (w:World) (hn:n≤12) (hp:AskP fn q r w n p):Calls Tryz.prog 99 #[.slice A n cap,.func (.func fn) #[] #[.pointer (some ⟨q,0,none⟩),.pointer (some ⟨r,0,none⟩)]] w fun e w'=>(∃ A c,e=.returned (.slice A (selTo p n).length c)∧IntsAt w' A c (selTo p n))∧Below w.heap.size w w':=by
 obtain ⟨i0,hi0,hz0,hz1,hz2⟩:=info_parts Tryz.infoInt
 have HP:Hid (AskP fn q r w n p):=hp
 have hn':(n:Int)≤12:=by omega
 clear hp
 unfold EntersO at he
 go_enter Tryz.func99,Tryz.ntmps99
 go_wp2_with fail
 go_loopg [5,9] n (fun g s5 s9 wr => ∃ (k:Nat),k≤n∧g=n-k∧s9=.int .i64 k∧wr.ownsRow w.heap.size 3 1 s5 (selTo p k).length (mapI (selTo p k))∧Below w.heap.size w wr)
 case atStart=>exact ⟨0,Nat.zero_le _,rfl,rfl,World.ownsRow_nil _ _ _ _,Below.refl _ _⟩
 case round =>
  obtain ⟨k,hk,rfl,rfl,hown,hBw⟩:=hrel
  have HW:Hid (Below w.heap.size w wr):=hBw
  have HO:Hid (wr.ownsRow w.heap.size 3 1 _ (selTo p k).length (mapI (selTo p k))):=hown
  by_cases hlt:k<n
  ·have hki:(k:Int)<(n:Int):=by omega
   have hbd:=HP.out k wr hlt hBw
   clear hBw hown
   cases hb:p k
   ·rw [hb] at hbd
    have HK:Hid (p k=false):=hb
    clear hb
    go_wp2_with fail
    refine hbd.mono ?_
    rintro e w1 ⟨rfl,hb1⟩
    go_wp2_with fail
    go_roundg (n-(k+1))
    case measure=>omega
    case rel=>exact ⟨k+1,by omega,rfl,by go_num,by rw [selTo_miss HK.out];exact own_later HO.out hb1,onB HW.out hb1⟩
   ·rw [hb] at hbd
    have HK:Hid (p k=true):=hb
    have hlen:=selTo_len p k
    clear hb
    go_wp2_with fail
    refine hbd.mono ?_
    rintro e w1 ⟨rfl,hb1⟩
    have hown:=own_later HO.out hb1
    have hB1:=onB HW.out hb1
    have hsz:=hB1.size
    have HB1:Hid (Below w.heap.size w w1):=hB1
    clear hb1 hB1
    go_wp2_with (at_builtin;refine wpList_append_own _ rfl _ _ 22 rfl w.heap.size 3 i0 (.int .i64 0) 1 8 Tryz.underlying22 hi0 hz0 hz1 hz2 rfl (by decide) _ _ _ rfl (hown.alloc _) ⟨w1.heap.size,0,none⟩ 1 1 [.int .i64 k] rfl rfl one_cell one_one (by unfold maxLen;omega) (by omega) (by simp;omega) ?_)
    intro v' w2 hown' hgrow _
    have HB2:Hid (Below w.heap.size w w2):=grown_own HB1.out hown hgrow
    have HO2:Hid (w2.ownsRow w.heap.size 3 1 v' (selTo p (k+1)).length (mapI (selTo p (k+1)))):=by
     show World.ownsRow ..
     rw [selTo_hit HK.out,mapI_snoc,List.length_append];exact hown'
    clear hown' hgrow hown
    go_wp2_with fail
    go_roundg (n-(k+1))
    case measure=>omega
    case rel=>exact ⟨k+1,by omega,rfl,by go_num,HO2.out,HB2.out⟩
  ·have hke:k=n:=by omega
   subst hke
   clear hBw hown
   go_wp2_with fail
   go_ret
   obtain ⟨A,c,h1,h2⟩:=ints_of HO.out
   exact ⟨⟨A,c,by rw [←h1];rfl,h2⟩,HW.out⟩
set_option maxHeartbeats 1000000 in
theorem index_ints (A:Option Addr) (cap:Nat) (L:List Int) (i:Int) (w:World) (hn:L.length≤12) (hL:IntsAt w A cap L):Calls Tryz.prog 104 #[.slice A L.length cap,.int .i64 i] w fun e w'=>e=.returned (.int .i64 (findFrom (fun j=>L.getD j 0 == i) L.length 0))∧Below w.heap.size w w':=by
 obtain ⟨hc,h0 | ⟨b,rfl,hbw,hcell⟩⟩:=hL
 ·subst h0
  simp only [List.length_nil]
  go_enter Tryz.func104,Tryz.ntmps104
  go_wp2_with fail
  refine wp_loop_rounds 1 ?_
  rw [rounds_succ]
  go_wp2_with fail
  go_ret
  exact ⟨rfl,Below.refl _ _⟩
 ·have HC:Hid (∀ j,j<L.length→w.cell? ⟨b,j,none⟩=some (.int .i64 (L.getD j 0))):=hcell
  obtain ⟨p,hp⟩:∃ p:Nat→Bool,p=fun j=>L.getD j 0 == i:=⟨_,rfl⟩
  have HP:Hid (∀ j,p j=(L.getD j 0 == i)):=fun j=>by rw [hp]
  rw [←hp]
  generalize hnn:L.length=n at hn hc HC
  clear hcell hp hnn
  go_enter Tryz.func104,Tryz.ntmps104
  go_wp2_with fail
  go_loopg [8] n (fun g s8 wr => ∃ (k:Nat),k≤n∧g=n-k∧s8=.int .i64 k∧findFrom p (n-k) k=findFrom p n 0∧wr=w)
  case atStart=>exact ⟨0,Nat.zero_le _,rfl,rfl,rfl,rfl⟩
  case round =>
   obtain ⟨k,hk,rfl,rfl,hf,rfl⟩:=hrel
   have HF:Hid (findFrom p (n-k) k=findFrom p n 0):=hf
   clear hf
   by_cases hlt:k<n
   ·have hki:(k:Int)<(n:Int):=by omega
    have hcx:=HC.out k hlt
    have hsk:n-k=(n-(k+1))+1:=by omega
    have hn':(n:Int)≤12:=by omega
    have hpk:=HP.out k
    have HSK:Hid (n-k=(n-(k+1))+1):=hsk
    generalize L.getD k 0=x at hcx hpk
    clear hsk
    cases hb:p k
    ·have HK:Hid (p k=false):=hb
     rw [hb] at hpk
     have hx:(i == x)=false:=by
      have h1:x≠i:=by simpa using hpk.symm
      simpa using fun h:i=x=>h1 h.symm
     clear hb hpk
     go_wp2_with fail
     go_roundg (n-(k+1))
     case measure=>omega
     case rel=>exact ⟨k+1,by omega,rfl,by go_num,by rw [←HF.out,HSK.out,findFrom_miss _ HK.out],rfl⟩
    ·have HK:Hid (p k=true):=hb
     rw [hb] at hpk
     have hx:(i == x)=true:=by
      have h1:x=i:=by simpa using hpk.symm
      simpa using h1.symm
     clear hb hpk
     go_wp2_with fail
     go_ret
     exact ⟨by rw [←HF.out,HSK.out,findFrom_hit _ HK.out];rfl,Below.refl _ _⟩
   ·have hke:k=n:=by omega
    subst hke
    go_wp2_with fail
    go_ret
    exact ⟨by rw [←HF.out,Nat.sub_self];rfl,Below.refl _ _⟩
theorem contains_ints (A:Option Addr) (cap:Nat) (L:List Int) (i:Int) (w:World) (hn:L.length≤12) (hL:IntsAt w A cap L):Calls Tryz.prog 78 #[.slice A L.length cap,.int .i64 i] w fun e w'=>e=.returned (.bool (inB L i))∧Below w.heap.size w w':=by
 have h:=index_ints A cap L i w hn hL
 have HI:Hid (decide (0≤findFrom (fun j=>L.getD j 0 == i) L.length 0)=inB L i):=find_in L i
 generalize findFrom (fun j=>L.getD j 0 == i) L.length 0=f at h HI
 generalize L.length=n at h
 clear hL hn
 go_enter Tryz.func78,Tryz.ntmps78
 go_wp2_with fail
 refine h.mono ?_
 rintro e w1 ⟨rfl,hb1⟩
 go_wp2_with fail
 go_ret
 exact ⟨by rw [←HI.out];rfl,hb1⟩
end Go.Proofs.YtenlladggdcfnaaGreatDoor
namespace Go.Proofs.YtenlladggdcfnaaGreatDoor
open Go Go.ChangeShapes Go.WideShapes Go.ChangeAt Go.RowKit Go.Deep
set_option maxRecDepth 100000
section
variable {H:Type} {enc:TypeId×Value→H} {w:World} {held:Bool}
theorem trod_one {P:Program} {base:Nat} {sp:Nat→Bool} {t:TypeId} {fs:Array Field} {fuel:Nat} {cs:List Value} {x:DataW H×List MemPlace} (ht:P.underlying t=some (.struct fs)) (hone:oneCellFields P fs=true) (h:DataW.trod enc P w base sp held fuel t cs=some x) :
  cs.length=P.cellsOf t∧∃ n,∀ (i:Nat) (f:Field) (v:Value),fs[i]?=some f→cs[i]?=some v→∃ y,DataW.trod enc P w base sp held n f.type [v]=some y:=by
 obtain ⟨xs,n,_,_,hl,hxs,hf⟩:=DataW.trod_struct ht h
 refine ⟨hl,n,fun i f v hi hv=>?_⟩
 obtain ⟨ho,hc⟩:=hone_of hone i f hi
 have hlt:i<fs.size:=(Array.getElem?_eq_some_iff.1 hi).1
 have e:=hf i f hi
 rw [ho,hc] at e
 obtain ⟨hi',hv'⟩:=List.getElem?_eq_some_iff.1 hv
 have ed:(cs.drop i).take 1=[v]:=by rw [List.drop_eq_getElem_cons hi',hv'];rfl
 rw [ed,List.getElem?_eq_getElem (by omega)] at e
 exact ⟨_,e⟩
theorem cellsM:Tryz.prog.cellsOf 117=4:=by kernel_rfl
theorem cellsD:Tryz.prog.cellsOf 81=3:=by kernel_rfl
theorem cellsO:Tryz.prog.cellsOf 25=1:=by kernel_rfl
theorem open_member {base:Nat} {sp:Nat→Bool} {fuel:Nat} {cs:List Value} {x:DataW H×List MemPlace} (h:DataW.trod enc Tryz.prog w base sp held fuel 117 cs=some x) :
  ∃ m:Mem,cs=[.string m.name,.int .i64 m.parent,.int .i64 m.sign,.string m.formula]:=by
 obtain ⟨hl,n,hf⟩:=trod_one Tryz.underlying117 (by kernel_rfl) h
 rw [cellsM] at hl
 match cs,hl with
 | [v0,v1,v2,v3],_ =>
  obtain ⟨y0,h0⟩:=hf 0 _ v0 rfl rfl
  obtain ⟨y1,h1⟩:=hf 1 _ v1 rfl rfl
  obtain ⟨y2,h2⟩:=hf 2 _ v2 rfl rfl
  obtain ⟨y3,h3⟩:=hf 3 _ v3 rfl rfl
  obtain ⟨s0,e0,-,-⟩:=DataW.trod_string Tryz.underlying9 h0
  obtain ⟨n1,e1,-,-⟩:=DataW.trod_int Tryz.underlying3 h1
  obtain ⟨n2,e2,-,-⟩:=DataW.trod_int Tryz.underlying3 h2
  obtain ⟨s3,e3,-,-⟩:=DataW.trod_string Tryz.underlying9 h3
  simp at e0 e1 e2 e3
  exact ⟨⟨s0,n1,n2,s3⟩,by rw [e0,e1,e2,e3]⟩
theorem addr_plain {a:Addr} {k:Nat} {v:Value} (h:w.cell? (a.add k)=some v) (hk:k=0):a=⟨a.block,a.off,none⟩:=by
 subst hk
 have e:(a.add 0)=a:=by simp [Addr.add]
 rw [e] at h
 have:=World.cell?_spot h
 cases a
 simp_all
theorem plain_add (b o k:Nat):(⟨b,o,none⟩:Addr).add k=⟨b,o+k,none⟩:=by
 unfold Addr.add
 by_cases hk:k=0
 ·subst hk;simp
 ·rw [if_neg hk]
theorem open_members {fuel:Nat} {cs:List Value} {x:DataW H×List MemPlace} (h:DataW.trod enc Tryz.prog w 0 (fun _=>true) held fuel 79 cs=some x) :
  ∃ (A:Option Addr) (cap n:Nat) (M:Nat→Mem),cs=[.slice A n cap]∧MemsV w A cap n M:=by
 rcases open_slice Tryz.underlying79 h with ⟨rfl,-⟩ | ⟨a,len,cap,m,n,D,Pl,rfl,-,hl,-,hm,-,hx⟩
 ·exact ⟨none,0,0,fun _=>⟨default,0,0,default⟩,rfl,Nat.le_refl _,Or.inl rfl⟩
 rw [cellsM] at hx
 simp at hm
 subst hm
 haveI:Inhabited Mem:=⟨⟨default,0,0,default⟩⟩
 have each:∀ i,i<len→∃ y:Mem,w.cells? 0 (a.add (i*4)) 4=some [.string y.name,.int .i64 y.parent,.int .i64 y.sign,.string y.formula]:=fun i hi=>by
  obtain ⟨cs',h1,h2⟩:=hx i (by omega)
  obtain ⟨y,rfl⟩:=open_member h2
  exact ⟨y,h1⟩
 obtain ⟨M,hM⟩:=choose_lt each
 refine ⟨some a,_,len,M,rfl,hl,?_⟩
 rcases Nat.eq_zero_or_pos len with h0 | h0
 ·exact Or.inl h0
 right
 have c0:=(World.cells?_some (hM 0 h0)).2.2 0 (by omega)
 rw [add_add] at c0
 have hp:=addr_plain c0 (by omega)
 have hb:=World.block_lt_of_cell? _ _ c0
 refine ⟨a.block,a.off,by rw [←hp],by simpa [Addr.add] using hb,fun i hi=>?_⟩
 have hc:=(World.cells?_some (hM i hi)).2.2
 rw [hp] at hc
 simp only [plain_add,Nat.add_assoc] at hc
 refine ⟨?_,?_,?_,?_⟩
 ·have:=hc 0 (by omega);simpa using this
 ·have:=hc 1 (by omega);simpa [Nat.add_assoc] using this
 ·have:=hc 2 (by omega);simpa [Nat.add_assoc] using this
 ·have:=hc 3 (by omega);simpa [Nat.add_assoc] using this
theorem open_dim {fuel:Nat} {cs:List Value} {x:DataW H×List MemPlace} (h:DataW.trod enc Tryz.prog w 0 (fun _=>true) held fuel 81 cs=some x) :
  ∃ (d:Dm) (A:Option Addr) (c:Nat),cs=[.string d.name,.int .i64 d.solve,.slice A d.n c]∧MemsV w A c d.n d.mem:=by
 obtain ⟨hl,n,hf⟩:=trod_one Tryz.underlying81 (by kernel_rfl) h
 rw [cellsD] at hl
 match cs,hl with
 | [v0,v1,v2],_ =>
  obtain ⟨y0,h0⟩:=hf 0 _ v0 rfl rfl
  obtain ⟨y1,h1⟩:=hf 1 _ v1 rfl rfl
  obtain ⟨y2,h2⟩:=hf 2 _ v2 rfl rfl
  obtain ⟨s0,e0,-,-⟩:=DataW.trod_string Tryz.underlying9 h0
  obtain ⟨n1,e1,-,-⟩:=DataW.trod_int Tryz.underlying3 h1
  obtain ⟨A,cap,k,M,e2,hM⟩:=open_members h2
  simp at e0 e1 e2
  exact ⟨⟨s0,n1,k,M⟩,A,cap,by rw [e0,e1,e2],hM⟩
theorem open_dims {fuel:Nat} {cs:List Value} {x:DataW H×List MemPlace} (h:DataW.trod enc Tryz.prog w 0 (fun _=>true) held fuel 23 cs=some x) :
  ∃ (A0:Option Addr) (cap n:Nat) (D:Nat→Dm) (A:Nat→Option Addr) (C:Nat→Nat),cs=[.slice A0 n cap]∧DimsV w A0 cap n D A C:=by
 rcases open_slice Tryz.underlying23 h with ⟨rfl,-⟩ | ⟨a,len,cap,m,n,D,Pl,rfl,-,hl,-,hm,-,hx⟩
 ·exact ⟨none,0,0,fun _=>⟨default,0,0,fun _=>⟨default,0,0,default⟩⟩,fun _=>none,fun _=>0,rfl,Nat.le_refl _,Or.inl rfl⟩
 rw [cellsD] at hx
 simp at hm
 subst hm
 haveI:Inhabited Dm:=⟨⟨default,0,0,fun _=>⟨default,0,0,default⟩⟩⟩
 have each:∀ i,i<len→∃ y:Dm×Option Addr×Nat,w.cells? 0 (a.add (i*3)) 3=some [.string y.1.name,.int .i64 y.1.solve,.slice y.2.1 y.1.n y.2.2]∧MemsV w y.2.1 y.2.2 y.1.n y.1.mem:=fun i hi=>by
  obtain ⟨cs',h1,h2⟩:=hx i (by omega)
  obtain ⟨d,A,c,rfl,hm⟩:=open_dim h2
  exact ⟨(d,A,c),h1,hm⟩
 obtain ⟨Y,hY⟩:=choose_lt each
 refine ⟨some a,_,len,fun i=>(Y i).1,fun i=>(Y i).2.1,fun i=>(Y i).2.2,rfl,hl,?_⟩
 rcases Nat.eq_zero_or_pos len with h0 | h0
 ·exact Or.inl h0
 right
 have c0:=(World.cells?_some (hY 0 h0).1).2.2 0 (by omega)
 rw [add_add] at c0
 have hp:=addr_plain c0 (by omega)
 have hb:=World.block_lt_of_cell? _ _ c0
 refine ⟨a.block,a.off,by rw [←hp],by simpa [Addr.add] using hb,fun i hi=>?_⟩
 have hc:=(World.cells?_some (hY i hi).1).2.2
 rw [hp] at hc
 simp only [plain_add,Nat.add_assoc] at hc
 refine ⟨?_,?_,?_,(hY i hi).2⟩
 ·have:=hc 0 (by omega);simpa using this
 ·have:=hc 1 (by omega);simpa [Nat.add_assoc] using this
 ·have:=hc 2 (by omega);simpa [Nat.add_assoc] using this
theorem arr1 {α:Type} {a:Array α} (h:a.size=1):∃ x,a=#[x]:=by
 rcases a with ⟨l⟩
 match l,h with
 | [x],_=>exact ⟨x,rfl⟩
theorem open_outline {r:Reach} {b0:Nat} {v:Value} {d:DataW H} {p:List MemPlace} (hv:Value.okWide Tryz.prog w r b0 25 v) (h:DataW.Trod enc Tryz.prog w 0 (fun _=>true) held 25 v d p) :
  ∃ (A0:Option Addr) (cap n:Nat) (D:Nat→Dm) (A:Nat→Option Addr) (C:Nat→Nat),v=.agg #[.slice A0 n cap]∧DimsV w A0 cap n D A C:=by
 obtain ⟨cs,rfl,hsz⟩:=okWide_struct Tryz.underlying25 hv
 obtain ⟨c0,rfl⟩:=arr1 (hsz.trans cellsO)
 obtain ⟨fuel,hf⟩:=h
 obtain ⟨-,n,hy⟩:=trod_one Tryz.underlying25 (by kernel_rfl) hf
 obtain ⟨y0,h0⟩:=hy 0 _ c0 rfl rfl
 obtain ⟨A0,cap,k,D,A,C,e,hD⟩:=open_dims h0
 simp at e
 exact ⟨A0,cap,k,D,A,C,by rw [e],hD⟩
end
end Go.Proofs.YtenlladggdcfnaaGreatDoor
namespace Go.Proofs.YtenlladggdcfnaaGreatDoor
def bindN (op:Int):Int:=if op=3∨op=4 then 1 else if op=5∨op=6 then 2 else 3
theorem bindN_ge (op:Int):1≤bindN op:=by unfold bindN;split <;> (try split) <;> omega
structure Bld where
 nodes:List Nd
 ready:List Int
 waiting:List Int
def noB:Bld:=⟨[],[],[]⟩
def addB (x:Nd) (b:Bld):Bld:=⟨b.nodes ++ [x],b.ready ++ [(b.nodes.length:Int)],b.waiting⟩
def joinBd (op:Int) (b:Bld):Bld:=addB ⟨op,0,⟨#[]⟩,b.ready.getD (b.ready.length-2) 0,b.ready.getD (b.ready.length-2+1) 0⟩ ⟨b.nodes,b.ready.take (b.ready.length-2),b.waiting⟩
def settleTo (least:Int):Nat→Bld→Bld
 | 0,b=>b
 | k+1,b=>if b.waiting.getD k 0=0∨bindN (b.waiting.getD k 0)<least then b else settleTo least k (joinBd (b.waiting.getD k 0) ⟨b.nodes,b.ready,b.waiting.take k⟩)
def settleB (least:Int) (b:Bld):Bld:=settleTo least b.waiting.length b
def numW (t:ByteArray):Int:=t.data.toList.foldl (fun n c=>n*10+((c.toNat:Int)-48)) 0
def opndN (t:ByteArray):Nd:=if 97≤byteN t 0∧byteN t 0≤122 then ⟨2,0,t,0,0⟩ else ⟨1,numW t,⟨#[]⟩,0,0⟩
def signI (c:Int):Int:=if c=43 then 0 else if c=45 then 1 else if c=42 then 2 else if c=47 then 3 else -1
def takeB (b:Bld) (t:ByteArray):Bld :=
 if byteN t 0=40 then ⟨b.nodes,b.ready,b.waiting ++ [0]⟩
 else if byteN t 0=41 then ⟨(settleB 0 b).nodes,(settleB 0 b).ready,(settleB 0 b).waiting.take ((settleB 0 b).waiting.length-1)⟩
 else if 0≤signI (byteN t 0) then ⟨(settleB (bindN (3+signI (byteN t 0))) b).nodes,(settleB (bindN (3+signI (byteN t 0))) b).ready,(settleB (bindN (3+signI (byteN t 0))) b).waiting ++ [3+signI (byteN t 0)]⟩
 else addB (opndN t) b
def zerosN (l:List Int):Nat:=l.countP (fun x=>decide (x=0))
def opsN (l:List Int):Nat:=l.countP (fun x=>decide (x≠0))
theorem zo_len (l:List Int):zerosN l+opsN l=l.length:=by
 induction l with
 | nil=>rfl
 | cons x r ih =>
  simp only [zerosN,opsN,List.countP_cons,List.length_cons] at *
  by_cases h:x=0
  ·rw [if_pos (by simpa using h),if_neg (by simpa using h)];omega
  ·rw [if_neg (by simpa using h),if_pos (by simpa using h)];omega
def digB (c:Int):Bool:=decide (48≤c) && decide (c≤57)
def letB (c:Int):Bool:=decide (97≤c) && decide (c≤122)
def leadTo (p:Int→Bool) (t:ByteArray):Nat→Nat→Nat
 | 0,i=>i
 | f+1,i=>if p (byteN t i) then leadTo p t f (i+1) else i
def leadN (p:Int→Bool) (t:ByteArray):Nat:=leadTo p t t.size 0
def nextB (s:ByteArray) (a:Nat):Int:=if a=s.size then 0 else byteN s a
structure Rd (S:Type) where
 at':Nat
 opn:Nat
 st:S
section
variable {S:Type} (s:ByteArray) (tk:S→ByteArray→S)
def wordR (n:Nat) (r:Rd S):Rd S:=⟨r.at'+n,r.opn,tk r.st (s.extract r.at' (r.at'+n))⟩
def opensR:Nat→Rd S→Rd S
 | 0,r=>r
 | f+1,r=>if nextB s r.at'=40 then opensR f (wordR s tk 1 ⟨r.at',r.opn+1,r.st⟩) else r
def closesR:Nat→Rd S→Rd S
 | 0,r=>r
 | f+1,r=>if 0<r.opn∧nextB s r.at'=41 then closesR f (wordR s tk 1 ⟨r.at',r.opn-1,r.st⟩) else r
def digitsN (a:Nat):Nat:=if nextB s a=48 then 1 else min (leadN digB (s.extract a s.size)) 7
def openedR (r:Rd S):Rd S:=opensR s tk (s.size-r.at') r
def operandR (r:Rd S):Rd S×Bool :=
 if digB (nextB s (openedR s tk r).at') then (closesR s tk s.size (wordR s tk (digitsN s (openedR s tk r).at') (openedR s tk r)),true)
 else if letB (nextB s (openedR s tk r).at') then (closesR s tk s.size (wordR s tk (leadN letB (s.extract (openedR s tk r).at' s.size)) (openedR s tk r)),true)
 else (openedR s tk r,false)
def signR (r:Rd S):Rd S×Bool:=if signI (nextB s r.at')<0 then (r,false) else (wordR s tk 1 r,true)
def loopR:Nat→Rd S→Rd S×Bool
 | 0,r=>(r,true)
 | f+1,r=>if r.at'<s.size then
   (if (signR s tk r).2 then (if (operandR s tk (signR s tk r).1).2 then loopR f (operandR s tk (signR s tk r).1).1 else ((operandR s tk (signR s tk r).1).1,false)) else ((signR s tk r).1,false))
  else (r,true)
def allR (r:Rd S):Rd S×Bool :=
 if (operandR s tk r).2 then (if (loopR s tk s.size (operandR s tk r).1).2 then ((loopR s tk s.size (operandR s tk r).1).1,decide ((loopR s tk s.size (operandR s tk r).1).1.opn=0)) else ((loopR s tk s.size (operandR s tk r).1).1,false))
 else ((operandR s tk r).1,false)
end
end Go.Proofs.YtenlladggdcfnaaGreatDoor
namespace Go.Proofs.YtenlladggdcfnaaGreatDoor
open Go Go.ChangeShapes Go.WideShapes Go.ChangeAt Go.RowKit Go.Deep
set_option maxRecDepth 100000
def NdsAt (w:World) (b o:Nat) (l:List Nd):Prop:=b<w.heap.size∧∀ k,k<l.length→w.cell? ⟨b,o+k*5,none⟩=some (.int .i64 (l.getD k noN).op)∧w.cell? ⟨b,o+k*5+1,none⟩=some (.int .i64 (l.getD k noN).n)∧w.cell? ⟨b,o+k*5+2,none⟩=some (.string (l.getD k noN).name)∧w.cell? ⟨b,o+k*5+3,none⟩=some (.int .i64 (l.getD k noN).left)∧w.cell? ⟨b,o+k*5+4,none⟩=some (.int .i64 (l.getD k noN).right)
theorem NdsAt.later {w w':World} {b o:Nat} {l:List Nd} (h:NdsAt w b o l) (hB:Below w.heap.size w w'):NdsAt w' b o l:=by
 refine ⟨Nat.lt_of_lt_of_le h.1 hB.size,fun k hk=>?_⟩
 obtain ⟨h1,h2,h3,h4,h5⟩:=h.2 k hk
 exact ⟨(hB.cell (p:=⟨b,o+k*5,none⟩) h.1).trans h1,(hB.cell (p:=⟨b,o+k*5+1,none⟩) h.1).trans h2,(hB.cell (p:=⟨b,o+k*5+2,none⟩) h.1).trans h3,(hB.cell (p:=⟨b,o+k*5+3,none⟩) h.1).trans h4,(hB.cell (p:=⟨b,o+k*5+4,none⟩) h.1).trans h5⟩
def NdsV (w:World) (A:Option Addr) (cap:Nat) (l:List Nd):Prop:=l.length≤cap∧cap≤9223372036854775807∧(l=[]∨∃ b o,A=some ⟨b,o,none⟩∧NdsAt w b o l)
theorem NdsV.later {w w':World} {A:Option Addr} {cap:Nat} {l:List Nd} (h:NdsV w A cap l) (hB:Below w.heap.size w w'):NdsV w' A cap l:=by
 obtain ⟨h1,h0,h2 | ⟨b,o,h2,h3⟩⟩:=h
 ·exact ⟨h1,h0,Or.inl h2⟩
 ·exact ⟨h1,h0,Or.inr ⟨b,o,h2,h3.later hB⟩⟩
theorem NdsV.nil (w:World) (A:Option Addr) (cap:Nat) (h:cap≤9223372036854775807):NdsV w A cap []:=⟨Nat.zero_le _,h,Or.inl rfl⟩
end Go.Proofs.YtenlladggdcfnaaGreatDoor
namespace Go.Proofs.YtenlladggdcfnaaGreatDoor
open Go.ChangeShapes Go.WideShapes Go.ChangeAt Go.RowKit
set_option maxRecDepth 20000
theorem isdig_any (c:Int) (w:World):Calls Tryz.prog 207 #[.int .u8 c] w fun e w'=>e=.returned (.bool (digB c))∧Below w.heap.size w w':=by
 unfold digB
 by_cases h1:48≤c
 ·go_enter Tryz.func207,Tryz.ntmps207
  go_wp2
  go_ret
  exact ⟨by simp <;> omega,by go_grown⟩
 ·go_enter Tryz.func207,Tryz.ntmps207
  go_wp2
  go_ret
  exact ⟨by simp <;> omega,by go_grown⟩
theorem islet_any (c:Int) (w:World):Calls Tryz.prog 181 #[.int .u8 c] w fun e w'=>e=.returned (.bool (letB c))∧Below w.heap.size w w':=by
 unfold letB
 by_cases h1:97≤c
 ·go_enter Tryz.func181,Tryz.ntmps181
  go_wp2
  go_ret
  exact ⟨by simp <;> omega,by go_grown⟩
 ·go_enter Tryz.func181,Tryz.ntmps181
  go_wp2
  go_ret
  exact ⟨by simp <;> omega,by go_grown⟩
theorem binds_any (op:Int) (w:World):Calls Tryz.prog 157 #[.int .i64 op] w fun e w'=>e=.returned (.int .i64 (bindN op))∧Below w.heap.size w w':=by
 unfold bindN
 by_cases h3:op=3
 ·subst h3
  go_enter Tryz.func157,Tryz.ntmps157
  go_wp2
  go_ret
  exact ⟨by simp,by go_grown⟩
 by_cases h4:op=4
 ·subst h4
  go_enter Tryz.func157,Tryz.ntmps157
  go_wp2
  go_ret
  exact ⟨by simp,by go_grown⟩
 by_cases h5:op=5
 ·subst h5
  go_enter Tryz.func157,Tryz.ntmps157
  go_wp2
  go_ret
  exact ⟨by simp,by go_grown⟩
 by_cases h6:op=6
 ·subst h6
  go_enter Tryz.func157,Tryz.ntmps157
  go_wp2
  go_ret
  exact ⟨by simp,by go_grown⟩
 rw [if_neg (by omega),if_neg (by omega)]
 go_enter Tryz.func157,Tryz.ntmps157
 go_wp2
 go_ret
 exact ⟨rfl,by go_grown⟩
theorem joins_any (op:Int) (w:World):Calls Tryz.prog 187 #[.int .i64 op] w fun e w'=>e=.returned (.bool (decide (op≠1∧op≠2)))∧Below w.heap.size w w':=by
 by_cases h1:op=1
 ·subst h1
  go_enter Tryz.func187,Tryz.ntmps187
  go_wp2
  go_ret
  exact ⟨by simp,by go_grown⟩
 by_cases h2:op=2
 ·subst h2
  go_enter Tryz.func187,Tryz.ntmps187
  go_wp2
  go_ret
  exact ⟨by simp,by go_grown⟩
 go_enter Tryz.func187,Tryz.ntmps187
 go_wp2
 go_ret
 exact ⟨by simp [h1,h2],by go_grown⟩
def brk (t:ByteArray) (b:Bool):ByteArray:=if b then ⟨#[40]⟩ ++ t ++ ⟨#[41]⟩ else t
theorem byteN_get (s:ByteArray) (k:Nat) (h:k<s.size):((s[k]'h).toNat:Int)=byteN s k:=by
 unfold byteN
 rw [List.getD,List.getElem?_eq_getElem (by simpa using h)]
 rfl
theorem lead_miss {p:Int→Bool} {t:ByteArray} {f i:Nat} (h:p (byteN t i)=false):leadTo p t (f+1) i=i:=by simp [leadTo,h]
theorem lead_hit {p:Int→Bool} {t:ByteArray} {f i:Nat} (h:p (byteN t i)=true):leadTo p t (f+1) i=leadTo p t f (i+1):=by simp [leadTo,h]
set_option maxHeartbeats 1000000 in
theorem lead_any (p:Int→Bool) (F:Nat) (hent:∀ (args:Array Value) (w:World),(callFunc F args).run Tryz.prog w=.ok (.enter F args) w) (hF:∀ (c:Int) (w:World),Calls Tryz.prog F #[.int .u8 c] w fun e w'=>e=.returned (.bool (p c))∧Below w.heap.size w w') (t:ByteArray) (w:World) (hs:t.size≤4611686018427387904):Calls Tryz.prog 209 #[.string t,.func (.func F) #[] #[]] w fun e w'=>e=.returned (.int .i64 (leadN p t))∧Below w.heap.size w w':=by
 have HF:Hid (∀ (c:Int) (w:World),Calls Tryz.prog F #[.int .u8 c] w fun e w'=>e=.returned (.bool (p c))∧Below w.heap.size w w'):=hF
 unfold leadN
 clear hF
 go_enter Tryz.func209,Tryz.ntmps209
 go_wp2_with fail
 go_loopg [8] t.size (fun g s8 wr => ∃ (k:Nat),k≤t.size∧g=t.size-k∧s8=.int .i64 k∧leadTo p t (t.size-k) k=leadTo p t t.size 0∧Below w.heap.size w wr)
 case atStart=>exact ⟨0,Nat.zero_le _,rfl,rfl,rfl,Below.refl _ _⟩
 case round =>
  obtain ⟨k,hk,rfl,rfl,hf,hBw⟩:=hrel
  have HQ:Hid (leadTo p t (t.size-k) k=leadTo p t t.size 0):=hf
  have HW:Hid (Below w.heap.size w wr):=hBw
  clear hf hBw
  by_cases hlt:k<t.size
  ·have hki:(k:Int)<(t.size:Int):=by omega
   have hs':(t.size:Int)≤4611686018427387904:=by omega
   have HSK:Hid (t.size-k=(t.size-(k+1))+1):=by show _=_;omega
   have hbd:=HF.out (byteN t k)
   have hby:=byteN_get t k hlt
   cases hb:p (byteN t k)
   ·rw [hb] at hbd
    have HK:Hid (p (byteN t k)=false):=hb
    clear hb
    generalize byteN t k=c at hbd hby
    go_wp2_with fail
    refine (hbd _).mono ?_
    rintro e w1 ⟨rfl,hb1⟩
    go_wp2_with fail
    go_ret
    exact ⟨by rw [←HQ.out,HSK.out,lead_miss HK.out];rfl,onB HW.out hb1⟩
   ·rw [hb] at hbd
    have HK:Hid (p (byteN t k)=true):=hb
    clear hb
    generalize byteN t k=c at hbd hby
    go_wp2_with fail
    refine (hbd _).mono ?_
    rintro e w1 ⟨rfl,hb1⟩
    go_wp2_with fail
    go_roundg (t.size-(k+1))
    case measure=>omega
    case rel=>exact ⟨k+1,by omega,rfl,by go_num,by rw [←HQ.out,HSK.out,lead_hit HK.out],onB HW.out hb1⟩
  ·have hke:k=t.size:=by omega
   subst hke
   go_wp2_with fail
   go_ret
   exact ⟨by rw [←HQ.out,Nat.sub_self];rfl,HW.out⟩
theorem ent_dig (args:Array Value) (w:World):(callFunc 207 args).run Tryz.prog w=.ok (.enter 207 args) w:=by simp [go_sem]
theorem ent_let (args:Array Value) (w:World):(callFunc 181 args).run Tryz.prog w=.ok (.enter 181 args) w:=by simp [go_sem]
theorem leadd_any (t:ByteArray) (w:World) (hs:t.size≤4611686018427387904):Calls Tryz.prog 209 #[.string t,.func (.func 207) #[] #[]] w fun e w'=>e=.returned (.int .i64 (leadN digB t))∧Below w.heap.size w w':=lead_any digB 207 ent_dig isdig_any t w hs
theorem leadl_any (t:ByteArray) (w:World) (hs:t.size≤4611686018427387904):Calls Tryz.prog 209 #[.string t,.func (.func 181) #[] #[]] w fun e w'=>e=.returned (.int .i64 (leadN letB t))∧Below w.heap.size w w':=lead_any letB 181 ent_let islet_any t w hs
end Go.Proofs.YtenlladggdcfnaaGreatDoor
namespace Go.Proofs.YtenlladggdcfnaaGreatDoor
def rowN (N:List (List Int)) (i:Int):List Int:=N.getD i.toNat []
def Inn (N:List (List Int)):Prop := ∀ (i:Nat),i<N.length→∀ x∈N.getD i [],0≤x∧x<(N.length:Int)
theorem Inn.at {N:List (List Int)} (h:Inn N) {a:Int} (h0:0≤a) (h1:a<(N.length:Int)) {x:Int} (hx:x∈rowN N a):0≤x∧x<(N.length:Int):=h a.toNat (by omega) x hx
inductive Rch (N:List (List Int)):Int→Int→Prop
 | one {a b:Int}:b∈rowN N a→Rch N a b
 | more {a b c:Int}:b∈rowN N a→Rch N b c→Rch N a c
theorem Rch.trans {N:List (List Int)} {a b c:Int} (h:Rch N a b) (k:Rch N b c):Rch N a c:=by
 induction h with
 | one h=>exact .more h k
 | more h _ ih=>exact .more h (ih k)
theorem Rch.snoc {N:List (List Int)} {a b c:Int} (h:Rch N a b) (k:c∈rowN N b):Rch N a c:=h.trans (.one k)
theorem Rch.inn {N:List (List Int)} (hN:Inn N) {a b:Int} (h:Rch N a b):0≤a→a<(N.length:Int)→0≤b∧b<(N.length:Int):=by
 induction h with
 | one h=>exact fun h0 h1=>hN.at h0 h1 h
 | more h _ ih=>exact fun h0 h1=>let ⟨x,y⟩:=hN.at h0 h1 h;ih x y
theorem Rch.closed {N:List (List Int)} {S:Int→Prop} {a b:Int} (h:Rch N a b):(∀ x∈rowN N a,S x)→(∀ x,S x→∀ y∈rowN N x,S y)→S b:=by
 induction h with
 | one h=>exact fun h1 _=>h1 _ h
 | more h _ ih=>exact fun h1 h2=>ih (fun x hx=>h2 _ (h1 _ h) x hx) h2
noncomputable def cycB (N:List (List Int)) (i:Nat):Bool := @decide (Rch N i i) (Classical.propDecidable _)
theorem cyc_iff {N:List (List Int)} {i:Nat}:cycB N i=true↔Rch N i i:=by
 unfold cycB
 exact @decide_eq_true_iff _ (Classical.propDecidable _)
theorem few (n:Nat):∀ (L:List Int),L.Nodup→(∀ x∈L,0≤x∧x<(n:Int))→L.length≤n:=by
 induction n with
 | zero =>
  intro L _ h
  cases L with
  | nil=>exact Nat.le_refl _
  | cons x r=>have:=h x (by simp);omega
 | succ n ih =>
  intro L hL h
  have h1:=ih (L.erase (n:Int)) (hL.erase _) fun x hx=>by
   have h2:=(hL.mem_erase_iff.1 hx)
   have:=h x h2.2
   have:=h2.1
   omega
  have h3:L.length≤(L.erase (n:Int)).length+1:=by
   by_cases hm:(n:Int)∈L
   ·rw [List.length_erase_of_mem hm];omega
   ·rw [List.erase_of_not_mem hm];omega
  omega
theorem rise_eq:∀ (L K:List Int),L.Pairwise (· < ·)→K.Pairwise (· < ·)→(∀ x,x∈L↔x∈K)→L=K
 | [],[],_,_,_=>rfl
 | [],y :: K,_,_,h=>by have:=(h y).2 (by simp);cases this
 | x :: L,[],_,_,h=>by have:=(h x).1 (by simp);cases this
 | x :: L,y :: K,hL,hK,h=>by
  have hL1:=List.pairwise_cons.1 hL
  have hK1:=List.pairwise_cons.1 hK
  have e:x=y:=by
   rcases List.mem_cons.1 ((h x).1 (by simp)) with e | e
   ·exact e
   ·rcases List.mem_cons.1 ((h y).2 (by simp)) with e2 | e2
    ·exact e2.symm
    ·have:=hL1.1 _ e2
     have:=hK1.1 _ e
     omega
  subst e
  congr 1
  refine rise_eq L K hL1.2 hK1.2 fun z=>⟨fun hz=>?_,fun hz=>?_⟩
  ·rcases List.mem_cons.1 ((h z).1 (List.mem_cons_of_mem _ hz)) with e | e
   ·have:=hL1.1 z hz;omega
   ·exact e
  ·rcases List.mem_cons.1 ((h z).2 (List.mem_cons_of_mem _ hz)) with e | e
   ·have:=hK1.1 z hz;omega
   ·exact e
theorem sel_rise (p:Nat→Bool) (k:Nat):(selTo p k).Pairwise (· < ·):=by
 induction k with
 | zero=>exact List.Pairwise.nil
 | succ k ih =>
  rw [selTo,List.pairwise_append]
  refine ⟨ih,?_,fun a ha b hb=>?_⟩
  ·split <;> simp
  ·obtain ⟨m,h1,h2,-⟩:=selTo_mem a ha
   split at hb
   ·rw [List.mem_singleton.1 hb];omega
   ·cases hb
theorem sel_has {p:Nat→Bool} {k m:Nat} (h:m<k) (hp:p m=true):(m:Int)∈selTo p k:=by
 induction k with
 | zero=>omega
 | succ k ih =>
  rw [selTo,List.mem_append]
  by_cases e:m=k
  ·subst e;exact Or.inr (by rw [if_pos hp];simp)
  ·exact Or.inl (ih (by omega))
theorem selru_filter (p q:Nat→Bool) (f:Int→Bool) (k:Nat) (h:∀ j,j<k→(q j=true↔p j=true∧f (j:Int)=true)):(selTo p k).filter f=selTo q k:=by
 induction k with
 | zero=>rfl
 | succ k ih =>
  rw [selTo,selTo,List.filter_append,ih fun j hj=>h j (by omega)]
  congr 1
  have hk:=h k (by omega)
  by_cases h1:p k=true
  ·by_cases h2:f (k:Int)=true
   ·rw [if_pos h1,if_pos (hk.2 ⟨h1,h2⟩)];simp [h2]
   ·rw [if_pos h1,if_neg fun e=>h2 (hk.1 e).2];simp [h2]
  ·rw [if_neg h1,if_neg fun e=>h1 (hk.1 e).1];rfl
theorem rise_nodup {L:List Int} (h:L.Pairwise (· < ·)):L.Nodup:=h.imp fun h e=>by omega
end Go.Proofs.YtenlladggdcfnaaGreatDoor
namespace Go.Proofs
open Go.Shelf
def Tryz.lays137_ren:Go.Shelf.Ren:=⟨fun | 137=>156 | 217=>180 | 266=>202 | n=>n,fun | 9=>9 | 5=>5 | 3=>3 | n=>n,fun | n=>n⟩
theorem Tryz.lays137:Go.Proofs.Lays.n137 Tryz.prog Tryz.lays137_ren:={
 mixed:=by kernel_rfl
 f137:=Tryz.func156.trans (congrArg some (by kernel_rfl))
 f217:=Tryz.func180.trans (congrArg some (by kernel_rfl))
 f266:=Tryz.func202.trans (congrArg some (by kernel_rfl))
 t3:=Tryz.underlying3
 a3:=Tryz.isAgg3
 z3:=Tryz.sizeOf3
 v3:=Tryz.zeroValue3
 t5:=Tryz.underlying5
 a5:=Tryz.isAgg5
 z5:=Tryz.sizeOf5
 v5:=Tryz.zeroValue5
 t9:=Tryz.underlying9
 a9:=Tryz.isAgg9
 z9:=Tryz.sizeOf9
 v9:=Tryz.zeroValue9 }
namespace YtenlladggdcfnaaGreatDoor
open Go.ChangeShapes Go.WideShapes Go.ChangeAt Go.RowKit
theorem signI_fin:∀ c:Fin 256,Lib.indexByte [43,45,42,47] c.val.toUInt8=signI (c.val:Int):=by decide +kernel
theorem signI_eq (c:Int) (h0:0≤c) (h1:c<256):Lib.indexByte [43,45,42,47] c.toNat.toUInt8=signI c:=by
 have h:=signI_fin ⟨c.toNat,by omega⟩
 simp only at h
 rw [h,show ((c.toNat:Nat):Int)=c by omega]
theorem signix_any (c:Int) (h0:0≤c) (h1:c<256) (w:World):Calls Tryz.prog 156 #[.string ⟨#[43,45,42,47]⟩,.int .u8 c] w fun e w'=>e=.returned (.int .i64 (signI c))∧Below w.heap.size w w' :=
 (Any.strings_IndexByte Tryz.lays137 ⟨#[43,45,42,47]⟩ c w).mono fun e w' ⟨he,hw⟩=>⟨by rw [he,signI_eq c h0 h1],by rw [hw];exact Below.refl _ _⟩
theorem byteN_range (s:ByteArray) (i:Nat):0≤byteN s i∧byteN s i<256:=by
 unfold byteN
 have:=(s.data.toList.getD i 0).toNat_lt
 omega
theorem nextB_range (s:ByteArray) (i:Nat):0≤nextB s i∧nextB s i<256:=by
 unfold nextB
 split
 ·omega
 ·exact byteN_range s i
end YtenlladggdcfnaaGreatDoor
end Go.Proofs
namespace Go.Proofs.YtenlladggdcfnaaGreatDoor
def insL (R:List Int) (k:Int):List Int:=R.take (R.countP (· < k)) ++ k :: R.drop (R.countP (· < k))
end Go.Proofs.YtenlladggdcfnaaGreatDoor
