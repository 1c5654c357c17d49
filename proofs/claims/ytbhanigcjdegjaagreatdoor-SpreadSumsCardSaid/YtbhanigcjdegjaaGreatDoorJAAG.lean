/-
  What isLeaf and path of package tree answer, called in whatever memory: whether a member is a leaf; its path, in new memory.
-/
import Derived.OwnWalk
import Derived.Test.YtbhanigcjdegjaaGreatDoorJAAD
namespace Go.Proofs.YtbhanigcjdegjaaGreatDoor
open Go.ChangeShapes Go.WideShapes Go.ChangeAt Go.RowKit
set_option maxRecDepth 20000
theorem isleaf1_in:EntersO 89:=fun args w=>by simp [callFunc,Tryz.func89];rfl
theorem isleaf1_any (m:Mem) (i:Int) (q:Nat) (w:World) (hq:q<w.heap.size) (h:w.cell? ⟨q,0,none⟩=some (.int .i64 i)):Calls Tryz.prog 89 #[memV m,.pointer (some ⟨q,0,none⟩)] w fun e w'=>e=.returned (.bool (m.parent == i))∧Below w.heap.size w w':=by
 unfold memV
 go_enter Tryz.func89,Tryz.ntmps89
 go_wp2_with fail
 go_ret
 exact ⟨by simp,by go_grown⟩
def ownInt (w:World) (i:Int) (T:Nat):World:=w.alloc (.cells #[.int .i64 i] T)
theorem ownInt_at (w:World) (i:Int) (T:Nat):(ownInt w i T).cell? ⟨w.heap.size,0,none⟩=some (.int .i64 i):=by unfold ownInt;simp
theorem ownInt_size (w:World) (i:Int) (T:Nat):(ownInt w i T).heap.size=w.heap.size+1:=by unfold ownInt;simp
theorem ownInt_below (w:World) (i:Int) (T:Nat):Below w.heap.size w (ownInt w i T):=by unfold ownInt;go_grown
theorem leafB_told {M:Nat→Mem} {n k:Nat} (h:(M k).formula.size≠0):leafB M n k=false:=by simp [leafB,h]
theorem leafB_parts {M:Nat→Mem} {n k:Nat} (h:(M k).formula.size=0):leafB M n k = !decide (0≤findFrom (partB M k) n 0):=by simp [leafB,h]
set_option maxHeartbeats 2000000 in
theorem isleaf_any (b o n cap i:Nat) (M:Nat→Mem) (w:World) (hn:n≤12) (hi:i<n) (hM:MemsAt w b o n M):Calls Tryz.prog 66 #[.slice (some ⟨b,o,none⟩) n cap,.int .i64 i] w fun e w'=>e=.returned (.bool (leafB M n i))∧Below w.heap.size w w':=by
 have hS:=ownInt_size w i 3
 have hB0:=ownInt_below w i 3
 have hA:=ownInt_at w i 3
 have hM0:=hM.later hB0
 have hcl:=contains_mems 89 w.heap.size isleaf1_in b o n cap M (partB M i) (ownInt w i 3) hn hM0 (fun j w' _ hw'=>isleaf1_any (M j) i w.heap.size w' (by have:=hw'.size;omega) ((hw'.cell (p:=⟨w.heap.size,0,none⟩) (by show w.heap.size<_;omega)).trans hA))
 have HB0:Hid (Below w.heap.size w (ownInt w i 3)):=hB0
 obtain ⟨-,-,-,h3⟩:=hM.2 i hi
 have hbw:=hM.1
 have hii:(i:Int)<(n:Int):=by omega
 have hn':(n:Int)≤12:=by omega
 clear hM hS hB0 hA hM0
 by_cases hf:(M i).formula.size=0
 ·have hf':(M i).formula.toList.isEmpty=true:=by rw [empty_same];simpa using hf
  have HR:Hid (leafB M n i = !decide (0≤findFrom (partB M i) n 0)):=leafB_parts hf
  clear hf
  generalize decide (0≤findFrom (partB M i) n 0)=f at hcl HR
  go_enter Tryz.func66,Tryz.ntmps66
  go_wp2_with fail
  refine hcl.mono ?_
  rintro e w1 ⟨rfl,hb1⟩
  go_wp2_with fail
  go_ret
  exact ⟨by rw [HR.out];rfl,onB HB0.out hb1⟩
 ·have hf':(M i).formula.toList.isEmpty=false:=by rw [empty_same];simpa using hf
  have HR:Hid (leafB M n i=false):=leafB_told hf
  clear hf hcl
  go_enter Tryz.func66,Tryz.ntmps66
  go_wp2_with fail
  go_ret
  exact ⟨by rw [HR.out];rfl,by go_grown⟩
def IntsAt (w:World) (A:Option Addr) (cap:Nat) (L:List Int):Prop:=L.length≤cap∧(L=[]∨∃ b,A=some ⟨b,0,none⟩∧b<w.heap.size∧∀ j,j<L.length→w.cell? ⟨b,j,none⟩=some (.int .i64 (L.getD j 0)))
theorem IntsAt.later {w w':World} {A:Option Addr} {cap:Nat} {L:List Int} (h:IntsAt w A cap L) (hB:Below w.heap.size w w'):IntsAt w' A cap L:=by
 obtain ⟨h1,h2 | ⟨b,h2,h3,h4⟩⟩:=h
 ·exact ⟨h1,Or.inl h2⟩
 ·exact ⟨h1,Or.inr ⟨b,h2,Nat.lt_of_lt_of_le h3 hB.size,fun j hj=>(hB.cell (p:=⟨b,j,none⟩) h3).trans (h4 j hj)⟩⟩
theorem IntsAt.nil (w:World) (A:Option Addr) (cap:Nat):IntsAt w A cap []:=⟨Nat.zero_le _,Or.inl rfl⟩
def mapI (L:List Int):List Value:=L.map (Value.int .i64)
theorem mapI_snoc (L:List Int) (x:Int):mapI (L ++ [x])=mapI L ++ [Value.int .i64 x]:=by simp [mapI]
theorem ints_of {w:World} {base e:Nat} {v:Value} {L:List Int} (h:w.ownsRow base e 1 v L.length (mapI L)):∃ A cap,v=.slice A L.length cap∧IntsAt w A cap L:=by
 rcases h.2 with ⟨rfl,h0⟩ | ⟨g,cap,cur,rfl,hb,hg,hc,_,_,_⟩
 ·exact ⟨none,0,by rw [h0],by omega,Or.inl (List.eq_nil_of_length_eq_zero h0)⟩
 ·refine ⟨_,cap,rfl,hc,Or.inr ⟨g,rfl,(Array.getElem?_eq_some_iff.1 hg).1,fun j hj=>?_⟩⟩
  have hx:=h.cells (g:=g) rfl j (.int .i64 (L.getD j 0)) (by simp [mapI,List.getD,List.getElem?_eq_getElem hj])
  have hadd:(⟨g,0,none⟩:Addr).add j=⟨g,j,none⟩:=by unfold Addr.add;split <;> simp_all
  rw [hadd] at hx
  exact hx
theorem own_later {w w':World} {base e size:Nat} {v:Value} {n:Nat} {xs:List Value} (h:w.ownsRow base e size v n xs) (hB:Below w.heap.size w w'):w'.ownsRow base e size v n xs:=by
 refine ⟨h.1,?_⟩
 rcases h.2 with h0 | ⟨g,cap,cur,rfl,hb,hg,h1⟩
 ·exact Or.inl h0
 ·exact Or.inr ⟨g,cap,cur,rfl,hb,(hB.block g (Array.getElem?_eq_some_iff.1 hg).1).trans hg,h1⟩
theorem grown_own {w wr w1:World} {e size n:Nat} {v:Value} {xs:List Value} {o:Obj} (hB:Below w.heap.size w wr) (hown:wr.ownsRow w.heap.size e size v n xs) (hgrow:(wr.alloc o).grownBy w1 v.ownBlock):Below w.heap.size w w1 :=
 (hB.alloc hB.size o).grown hgrow (by have:=hB.size;simp;omega) (fun j hj=>(hown.lt j hj).1)
theorem one_cell {wr:World} {x:Value} {T:Nat}:∀ j u,[x][j]?=some u→(wr.alloc (.cells #[x] T)).cell? ((⟨wr.heap.size,0,none⟩:Addr).add j)=some u:=by
 intro j u hj
 match j,hj with
 | 0,hj=>simp at hj;subst hj;simp [Addr.add]
theorem one_one {x:Int}:∀ u∈[Value.int .i64 x],u.oneCell'=true:=by intro u hu;simp at hu;subst hu;rfl
theorem Tryz.infoInt:(Tryz.prog.info? 3).map (fun i=>(i.zero,i.size,i.bytes))=some (some (.int .i64 0),1,8):=by kernel_rfl
set_option maxHeartbeats 2000000 in
theorem path_any (b o n cap i:Nat) (M:Nat→Mem) (w:World) (hn:n≤12) (hi:i<n) (ht:Tr M n) (hM:MemsAt w b o n M):Calls Tryz.prog 79 #[.slice (some ⟨b,o,none⟩) n cap,.int .i64 i] w fun e w'=>(∃ A c,e=.returned (.slice A (pathOf M i).length c)∧IntsAt w' A c (pathOf M i))∧Below w.heap.size w w':=by
 obtain ⟨i0,hi0,hz0,hz1,hz2⟩:=info_parts Tryz.infoInt
 have HM:Hid (MemsAt w b o n M):=hM
 have HT:Hid (Tr M n):=ht
 have HL:Hid ((pathOf M i).length≤12):=by have:=pathOf_len ht n i (by omega) (by omega);show _≤_;omega
 have hn':(n:Int)≤12:=by omega
 clear hM ht
 go_enter Tryz.func79,Tryz.ntmps79
 go_wp2_with fail
 go_loopg [1,5] (i+1) (fun g s1 s5 wr => ∃ (k:Int) (L:List Int),-1≤k∧k<n∧g=(k+1).toNat∧s1=.int .i64 k∧L ++ pathOf M k=pathOf M i∧wr.ownsRow w.heap.size 3 1 s5 L.length (mapI L)∧Below w.heap.size w wr)
 case atStart=>exact ⟨i,[],by omega,by omega,by omega,rfl,rfl,World.ownsRow_nil _ _ _ _,Below.refl _ _⟩
 case round =>
  obtain ⟨k,L,hk1,hk2,rfl,rfl,hf,hown,hBw⟩:=hrel
  have HF:Hid (L ++ pathOf M k=pathOf M i):=hf
  have HW:Hid (Below w.heap.size w wr):=hBw
  clear hf
  by_cases h0:0≤k
  ·obtain ⟨m,rfl⟩:∃ m:Nat,k=m:=⟨k.toNat,by omega⟩
   have hmn:m<n:=by omega
   have HC:Hid (pathOf M m=(m:Int) :: pathOf M (M m).parent):=pathOf_cons HT.out hmn
   have hlen:L.length+1≤12:=by
    have h1:=HL.out
    rw [←HF.out,HC.out,List.length_append,List.length_cons] at h1
    omega
   have hsz:=hBw.size
   have hp:=HT.out m hmn
   clear hBw
   go_wp2_with (at_builtin;refine wpList_append_own _ rfl _ _ 22 rfl w.heap.size 3 i0 (.int .i64 0) 1 8 Tryz.underlying22 hi0 hz0 hz1 hz2 rfl (by decide) _ _ _ rfl (hown.alloc _) ⟨wr.heap.size,0,none⟩ 1 1 [.int .i64 m] rfl rfl one_cell one_one (by unfold maxLen;omega) (by omega) (by simp;omega) ?_)
   intro v' w1 hown' hgrow _
   have HB1:Hid (Below w.heap.size w w1):=grown_own HW.out hown hgrow
   have HO1:Hid (w1.ownsRow w.heap.size 3 1 v' (L ++ [(m:Int)]).length (mapI (L ++ [(m:Int)]))):=by
    show World.ownsRow ..
    rw [mapI_snoc,List.length_append];exact hown'
   obtain ⟨-,h1,-,-⟩:=(HM.out.later HB1.out).2 m hmn
   clear hown' hgrow hown
   go_wp2_with fail
   go_roundg ((M m).parent+1).toNat
   case measure=>omega
   case rel=>exact ⟨(M m).parent,L ++ [(m:Int)],by omega,by omega,rfl,rfl,by rw [←HF.out,HC.out];simp,HO1.out,HB1.out⟩
  ·have hk:k<0:=by omega
   go_wp2_with fail
   go_ret
   have hL:L=pathOf M i:=by rw [←HF.out,pathOf_neg hk];simp
   rw [←hL]
   obtain ⟨A,c,h1,h2⟩:=ints_of hown
   exact ⟨⟨A,c,by rw [←h1];rfl,h2⟩,HW.out⟩
def AskP (fn q r:Nat) (w:World) (n:Nat) (p:Nat→Bool):Prop := ∀ (i:Nat) (w':World),i<n→Below w.heap.size w w'→Calls Tryz.prog fn #[.int .i64 i,.pointer (some ⟨q,0,none⟩),.pointer (some ⟨r,0,none⟩)] w' fun e w''=>e=.returned (.bool (p i))∧Below w'.heap.size w' w''
set_option maxHeartbeats 2000000 in
theorem places_any (fn q r:Nat) (he:EntersO fn) (A:Option Addr) (n cap:Nat) (p:Nat→Bool) (w:World) (hn:n≤12) (hp:AskP fn q r w n p):Calls Tryz.prog 77 #[.slice A n cap,.func (.func fn) #[] #[.pointer (some ⟨q,0,none⟩),.pointer (some ⟨r,0,none⟩)]] w fun e w'=>(∃ A c,e=.returned (.slice A (selTo p n).length c)∧IntsAt w' A c (selTo p n))∧Below w.heap.size w w':=by
 obtain ⟨i0,hi0,hz0,hz1,hz2⟩:=info_parts Tryz.infoInt
 have HP:Hid (AskP fn q r w n p):=hp
 have hn':(n:Int)≤12:=by omega
 clear hp
 unfold EntersO at he
 go_enter Tryz.func77,Tryz.ntmps77
 go_wp2_with fail
 go_loopg [5,9] n (fun g s5 s9 wr => ∃ (k:Nat),k≤n∧g=n-k∧s9=.int .i64 k∧wr.ownsRow w.heap.size 3 1 s5 (selTo p k).length (mapI (selTo p k))∧Below w.heap.size w wr)
 case atStart=>exact ⟨0,Nat.zero_le _,rfl,rfl,World.ownsRow_nil _ _ _ _,Below.refl _ _⟩
 case round =>
  obtain ⟨k,hk,rfl,rfl,hown,hBw⟩:=hrel
  have HW:Hid (Below w.heap.size w wr):=hBw
  have HO:Hid (wr.ownsRow w.heap.size 3 1 _ (selTo p k).length (mapI (selTo p k))):=hown
  by_cases hlt:k<n
  ·have hki:(k:Int)<(n:Int):=by omega
   have hbd:=HP.out k wr hlt hBw
   clear hBw hown
   cases hb:p k
   ·rw [hb] at hbd
    have HK:Hid (p k=false):=hb
    clear hb
    go_wp2_with fail
    refine hbd.mono ?_
    rintro e w1 ⟨rfl,hb1⟩
    go_wp2_with fail
    go_roundg (n-(k+1))
    case measure=>omega
    case rel=>exact ⟨k+1,by omega,rfl,by go_num,by rw [selTo_miss HK.out];exact own_later HO.out hb1,onB HW.out hb1⟩
   ·rw [hb] at hbd
    have HK:Hid (p k=true):=hb
    have hlen:=selTo_len p k
    clear hb
    go_wp2_with fail
    refine hbd.mono ?_
    rintro e w1 ⟨rfl,hb1⟩
    have hown:=own_later HO.out hb1
    have hB1:=onB HW.out hb1
    have hsz:=hB1.size
    have HB1:Hid (Below w.heap.size w w1):=hB1
    clear hb1 hB1
    go_wp2_with (at_builtin;refine wpList_append_own _ rfl _ _ 22 rfl w.heap.size 3 i0 (.int .i64 0) 1 8 Tryz.underlying22 hi0 hz0 hz1 hz2 rfl (by decide) _ _ _ rfl (hown.alloc _) ⟨w1.heap.size,0,none⟩ 1 1 [.int .i64 k] rfl rfl one_cell one_one (by unfold maxLen;omega) (by omega) (by simp;omega) ?_)
    intro v' w2 hown' hgrow _
    have HB2:Hid (Below w.heap.size w w2):=grown_own HB1.out hown hgrow
    have HO2:Hid (w2.ownsRow w.heap.size 3 1 v' (selTo p (k+1)).length (mapI (selTo p (k+1)))):=by
     show World.ownsRow ..
     rw [selTo_hit HK.out,mapI_snoc,List.length_append];exact hown'
    clear hown' hgrow hown
    go_wp2_with fail
    go_roundg (n-(k+1))
    case measure=>omega
    case rel=>exact ⟨k+1,by omega,rfl,by go_num,HO2.out,HB2.out⟩
  ·have hke:k=n:=by omega
   subst hke
   clear hBw hown
   go_wp2_with fail
   go_ret
   obtain ⟨A,c,h1,h2⟩:=ints_of HO.out
   exact ⟨⟨A,c,by rw [←h1];rfl,h2⟩,HW.out⟩
set_option maxHeartbeats 1000000 in
theorem index_ints (A:Option Addr) (cap:Nat) (L:List Int) (i:Int) (w:World) (hn:L.length≤12) (hL:IntsAt w A cap L):Calls Tryz.prog 81 #[.slice A L.length cap,.int .i64 i] w fun e w'=>e=.returned (.int .i64 (findFrom (fun j=>L.getD j 0 == i) L.length 0))∧Below w.heap.size w w':=by
 obtain ⟨hc,h0 | ⟨b,rfl,hbw,hcell⟩⟩:=hL
 ·subst h0
  simp only [List.length_nil]
  go_enter Tryz.func81,Tryz.ntmps81
  go_wp2_with fail
  refine wp_loop_rounds 1 ?_
  rw [rounds_succ]
  go_wp2_with fail
  go_ret
  exact ⟨rfl,Below.refl _ _⟩
 ·have HC:Hid (∀ j,j<L.length→w.cell? ⟨b,j,none⟩=some (.int .i64 (L.getD j 0))):=hcell
  obtain ⟨p,hp⟩:∃ p:Nat→Bool,p=fun j=>L.getD j 0 == i:=⟨_,rfl⟩
  have HP:Hid (∀ j,p j=(L.getD j 0 == i)):=fun j=>by rw [hp]
  rw [←hp]
  generalize hnn:L.length=n at hn hc HC
  clear hcell hp hnn
  go_enter Tryz.func81,Tryz.ntmps81
  go_wp2_with fail
  go_loopg [8] n (fun g s8 wr => ∃ (k:Nat),k≤n∧g=n-k∧s8=.int .i64 k∧findFrom p (n-k) k=findFrom p n 0∧wr=w)
  case atStart=>exact ⟨0,Nat.zero_le _,rfl,rfl,rfl,rfl⟩
  case round =>
   obtain ⟨k,hk,rfl,rfl,hf,rfl⟩:=hrel
   have HF:Hid (findFrom p (n-k) k=findFrom p n 0):=hf
   clear hf
   by_cases hlt:k<n
   ·have hki:(k:Int)<(n:Int):=by omega
    have hcx:=HC.out k hlt
    have hsk:n-k=(n-(k+1))+1:=by omega
    have hn':(n:Int)≤12:=by omega
    have hpk:=HP.out k
    have HSK:Hid (n-k=(n-(k+1))+1):=hsk
    generalize L.getD k 0=x at hcx hpk
    clear hsk
    cases hb:p k
    ·have HK:Hid (p k=false):=hb
     rw [hb] at hpk
     have hx:(i == x)=false:=by
      have h1:x≠i:=by simpa using hpk.symm
      simpa using fun h:i=x=>h1 h.symm
     clear hb hpk
     go_wp2_with fail
     go_roundg (n-(k+1))
     case measure=>omega
     case rel=>exact ⟨k+1,by omega,rfl,by go_num,by rw [←HF.out,HSK.out,findFrom_miss _ HK.out],rfl⟩
    ·have HK:Hid (p k=true):=hb
     rw [hb] at hpk
     have hx:(i == x)=true:=by
      have h1:x=i:=by simpa using hpk.symm
      simpa using h1.symm
     clear hb hpk
     go_wp2_with fail
     go_ret
     exact ⟨by rw [←HF.out,HSK.out,findFrom_hit _ HK.out];rfl,Below.refl _ _⟩
   ·have hke:k=n:=by omega
    subst hke
    go_wp2_with fail
    go_ret
    exact ⟨by rw [←HF.out,Nat.sub_self];rfl,Below.refl _ _⟩
theorem contains_ints (A:Option Addr) (cap:Nat) (L:List Int) (i:Int) (w:World) (hn:L.length≤12) (hL:IntsAt w A cap L):Calls Tryz.prog 59 #[.slice A L.length cap,.int .i64 i] w fun e w'=>e=.returned (.bool (inB L i))∧Below w.heap.size w w':=by
 have h:=index_ints A cap L i w hn hL
 have HI:Hid (decide (0≤findFrom (fun j=>L.getD j 0 == i) L.length 0)=inB L i):=find_in L i
 generalize findFrom (fun j=>L.getD j 0 == i) L.length 0=f at h HI
 generalize L.length=n at h
 clear hL hn
 go_enter Tryz.func59,Tryz.ntmps59
 go_wp2_with fail
 refine h.mono ?_
 rintro e w1 ⟨rfl,hb1⟩
 go_wp2_with fail
 go_ret
 exact ⟨by rw [←HI.out];rfl,hb1⟩
end Go.Proofs.YtbhanigcjdegjaaGreatDoor
