/-
  Rows of places in memory; places, each with each member behind it, and the leafs of a place: what longer and Leafs of package roll answer, called in whatever memory.
-/
import Derived.Test.YtenlladggdcfnaaGreatDoorJABB
import Derived.Test.YtenlladggdcfnaaGreatDoorJABF
namespace Go.Proofs.YtenlladggdcfnaaGreatDoor
open Go Go.ChangeShapes Go.WideShapes Go.ChangeAt Go.RowKit
set_option maxRecDepth 20000
structure PL where
 p:List Int
 A:Option Addr
 c:Nat
def noP:PL:=⟨[],none,0⟩
def lP (xs:List PL):List (List Int):=xs.map PL.p
theorem lP_len (xs:List PL):(lP xs).length=xs.length:=by simp [lP]
theorem lP_append (a b:List PL):lP (a ++ b)=lP a ++ lP b:=by simp [lP]
def cellsP (xs:List PL):List Value:=xs.map fun x=>.slice x.A x.p.length x.c
theorem cellsP_append (a b:List PL):cellsP (a ++ b)=cellsP a ++ cellsP b:=by simp [cellsP]
theorem pl_mem {xs:List PL} {k:Nat} (h:k<xs.length):xs.getD k noP∈xs:=by
 rw [List.getD_eq_getElem?_getD,List.getElem?_eq_getElem h]
 exact List.getElem_mem h
theorem lP_at (xs:List PL) (k:Nat):(lP xs).getD k []=(xs.getD k noP).p:=by
 rw [List.getD_eq_getElem?_getD,List.getD_eq_getElem?_getD,lP,List.getElem?_map]
 cases xs[k]? <;> rfl
theorem cellsP_at {xs:List PL} {k:Nat} (h:k<xs.length):(cellsP xs)[k]?=some (.slice (xs.getD k noP).A (xs.getD k noP).p.length (xs.getD k noP).c):=by
 simp [cellsP,List.getD,h]
def PlsV (w:World) (A:Option Addr) (cap:Nat) (xs:List PL):Prop:=xs.length≤cap∧(xs=[]∨∃ b o,A=some ⟨b,o,none⟩∧b<w.heap.size∧∀ k,k<xs.length→w.cell? ⟨b,o+k,none⟩=some (.slice (xs.getD k noP).A (xs.getD k noP).p.length (xs.getD k noP).c))∧∀ x∈xs,HeadV w x.A x.c x.p
theorem PlsV.later {w w':World} {A:Option Addr} {cap:Nat} {xs:List PL} (h:PlsV w A cap xs) (hB:Below w.heap.size w w'):PlsV w' A cap xs:=by
 obtain ⟨h1,h2,h3⟩:=h
 refine ⟨h1,?_,fun x hx=>(h3 x hx).later hB⟩
 rcases h2 with h2 | ⟨b,o,h2,h4,h5⟩
 ·exact Or.inl h2
 ·exact Or.inr ⟨b,o,h2,Nat.lt_of_lt_of_le h4 hB.size,fun k hk=>(hB.cell (p:=⟨b,o+k,none⟩) h4).trans (h5 k hk)⟩
theorem PlsV.nil (w:World) (A:Option Addr) (cap:Nat):PlsV w A cap []:=⟨Nat.zero_le _,Or.inl rfl,fun x hx=>by cases hx⟩
theorem pls_own {w:World} {base:Nat} {v:Value} {xs:List PL} (h:w.ownsRow base 27 1 v xs.length (cellsP xs)) (hp:∀ x∈xs,x.p≠[]∧PlTy w x.A x.c x.p):∃ A c,v=.slice A xs.length c∧PlsV w A c xs:=by
 rcases h.2 with ⟨rfl,h0⟩ | ⟨g,cap,cur,rfl,hb,hg,hc,_,_,_⟩
 ·have:xs=[]:=List.eq_nil_of_length_eq_zero h0
  subst this
  exact ⟨none,0,rfl,PlsV.nil _ _ _⟩
 ·refine ⟨_,cap,rfl,hc,Or.inr ⟨g,0,rfl,(Array.getElem?_eq_some_iff.1 hg).1,fun k hk=>?_⟩,fun x hx=>Or.inr (hp x hx)⟩
  have y:=h.cells (g:=g) rfl k _ (cellsP_at hk)
  rw [plain_add] at y
  exact y
theorem place_ne_int:(3:Nat)≠27:=by decide
theorem plty_row {w w':World} {base:Nat} {v:Value} {n:Nat} {zs:List Value} {A:Option Addr} {c:Nat} {L:List Int} (h:PlTy w A c L) (hown:w.ownsRow base 27 1 v n zs) (hG:w.grownBy w' v.ownBlock):PlTy w' A c L:=by
 obtain ⟨h1,h2 | ⟨b,o,cs,fr',h2,h3,h4⟩⟩:=h
 ·exact ⟨h1,Or.inl h2⟩
 ·have hne:some b≠v.ownBlock:=by
   intro e
   rcases hown.2 with ⟨rfl,-⟩ | ⟨g,cap,cur,rfl,-,hg,-⟩
   ·cases e
   ·simp only [Value.ownBlock,Option.some.injEq] at e
    rw [e,hg] at h3
    simp only [Option.some.injEq,Obj.cells.injEq] at h3
    exact place_ne_int h3.2.1.symm
  have hb:w'.heap[b]?=w.heap[b]?:=hG.block b (Array.getElem?_eq_some_iff.1 h3).1 hne
  exact ⟨h1,Or.inr ⟨b,o,cs,fr',h2,hb.trans h3,fun j hj=>(World.cell?_of_block (a:=⟨b,o+j,none⟩) hb).trans (h4 j hj)⟩⟩
theorem Tryz.infoPla:(Tryz.prog.info? 27).map (fun i=>(i.zero,i.size,i.bytes))=some (some (.slice none 0 0),1,24):=by kernel_rfl
def catW (w:World) (A:Option Addr) (l c:Nat) (k:Int):World:=(w.alloc (.cells #[.int .i64 k] 3)).alloc (.cells #[.slice A l c,.slice (some ⟨w.heap.size,0,none⟩) 1 1] 27)
theorem catW_below (w:World) (A:Option Addr) (l c:Nat) (k:Int):Below w.heap.size w (catW w A l c k):=by unfold catW;go_grown
theorem catW_1 (w:World) (A:Option Addr) (l c:Nat) (k:Int):(catW w A l c k).cell? ⟨w.heap.size+1,0,none⟩=some (.slice A l c)∧(catW w A l c k).cell? ⟨w.heap.size+1,1,none⟩=some (.slice (some ⟨w.heap.size,0,none⟩) 1 1)∧(catW w A l c k).cell? ⟨w.heap.size,0,none⟩=some (.int .i64 k):=by
 have h:=heap_alloc_new (w.alloc (.cells #[.int .i64 k] 3)) (.cells #[.slice A l c,.slice (some ⟨w.heap.size,0,none⟩) 1 1] 27)
 rw [show (w.alloc (.cells #[.int .i64 k] 3)).heap.size=w.heap.size+1 by simp] at h
 have h0:(catW w A l c k).heap[w.heap.size]?=some (.cells #[.int .i64 k] 3):=by
  unfold catW
  rw [Below.heap_alloc _ _ _ (by simp)]
  exact heap_alloc_new w _
 refine ⟨?_,?_,?_⟩
 ·exact (Lib.cell_of_heap h 0).trans rfl
 ·exact (Lib.cell_of_heap h 1).trans rfl
 ·rw [Lib.cell_of_heap h0];rfl
theorem longL_take {Ps:List (List Int)} {X:List Int} {k:Nat} (h:k<Ps.length):longL (Ps.take (k+1)) X=longL (Ps.take k) X ++ X.map fun x=>Ps.getD k [] ++ [x]:=by
 rw [List.take_succ_eq_append_getElem h,longL_snoc,List.getD_eq_getElem?_getD,List.getElem?_eq_getElem h]
 rfl
theorem map_take {X:List Int} {h:List Int} {j:Nat} (hj:j<X.length):(X.take (j+1)).map (fun x=>h ++ [x])=(X.take j).map (fun x=>h ++ [x]) ++ [h ++ [X.getD j 0]]:=by
 rw [List.take_succ_eq_append_getElem hj,List.map_append,List.getD_eq_getElem?_getD,List.getElem?_eq_getElem hj]
 rfl
set_option maxHeartbeats 8000000 in
theorem longer_any (A:Option Addr) (cap:Nat) (xs:List PL) (AM:Option Addr) (cM:Nat) (X:List Int) (w:World) (hN:xs.length≤20736) (hX:X.length≤12) (h3:∀ x∈xs,x.p.length≤3) (hP:PlsV w A cap xs) (hI:IntsAt w AM cM X) :
  Calls Tryz.prog 50 #[.slice A xs.length cap,.slice AM X.length cM] w fun e w'=>(∃ A' c' ys,e=.returned (.slice A' ys.length c')∧PlsV w' A' c' ys∧lP ys=longL (lP xs) X)∧Below w.heap.size w w':=by
 obtain ⟨i0,hi0,hz0,hz1,hz2⟩:=info_parts Tryz.infoPla
 have HP:Hid (PlsV w A cap xs):=hP
 have HI:Hid (IntsAt w AM cM X):=hI
 have H3:Hid (∀ x∈xs,x.p.length≤3):=h3
 obtain ⟨N,hNe⟩:∃ N,xs.length=N:=⟨_,rfl⟩
 have HN:Hid (xs.length=N):=hNe
 obtain ⟨M,hMe⟩:∃ M,X.length=M:=⟨_,rfl⟩
 have HM:Hid (X.length=M):=hMe
 rw [hNe] at hN
 rw [hMe] at hX
 rw [hNe,hMe]
 have hN':(N:Int)≤20736:=by omega
 have hX':(M:Int)≤12:=by omega
 clear hP hI h3 hNe hMe
 go_enter Tryz.func50,Tryz.ntmps50
 go_wp2_with fail
 go_loopg [5,12] N (fun g s5 s12 wr => ∃ (i:Nat) (ys:List PL),i≤N∧g=N-i∧s12=.int .i64 i∧Hid (lP ys=longL ((lP xs).take i) X∧∀ y∈ys,y.p≠[]∧PlTy wr y.A y.c y.p)∧wr.ownsRow w.heap.size 27 1 s5 ys.length (cellsP ys)∧Below w.heap.size w wr)
 case atStart=>exact ⟨0,[],Nat.zero_le _,rfl,rfl,(⟨rfl,fun y hy=>by cases hy⟩:_∧_),World.ownsRow_nil _ _ _ _,Below.refl _ _⟩
 case round =>
  obtain ⟨i,ys,hi,rfl,rfl,HY,hown,hBw⟩:=hrel
  have HBw:Hid (Below w.heap.size w wr):=hBw
  have HOw:Hid (wr.ownsRow w.heap.size 27 1 u5 ys.length (cellsP ys)):=hown
  have HYL:Hid (ys.length=i*M):=by
   show _=_
   rw [←lP_len,HY.out.1,longL_len,HM.out,List.length_take,lP_len,HN.out,Nat.min_eq_left hi]
  by_cases hlt:i<N
  ·have hii:(i:Int)<(N:Int):=by omega
   have hix:i<xs.length:=by rw [HN.out];exact hlt
   obtain ⟨hcap,h0 | ⟨b,o,rfl,hbz,hcell⟩,hhead⟩:=HP.out.later hBw
   ·rw [h0] at hix;simp at hix
   have ch:=hcell i hix
   have hhd:=hhead _ (pl_mem hix)
   have hh3:=H3.out _ (pl_mem hix)
   rw [HN.out] at hcap
   have HNx:Hid (longL ((lP xs).take (i+1)) X=longL ((lP xs).take i) X ++ X.map fun x=>(xs.getD i noP).p ++ [x]):=by
    show _=_
    rw [longL_take (by rw [lP_len];exact hix),lP_at]
   obtain ⟨h,hhe⟩:∃ h,(xs.getD i noP).p=h:=⟨_,rfl⟩
   rw [hhe] at ch hhd hh3 HNx
   generalize (xs.getD i noP).A=Ah at ch hhd
   generalize (xs.getD i noP).c=chh at ch hhd
   have HHd:Hid (HeadV wr Ah chh h):=hhd
   have HH3:Hid (h.length≤3):=hh3
   obtain ⟨nh,hnh⟩:∃ nh,h.length=nh:=⟨_,rfl⟩
   have HNH:Hid (h.length=nh):=hnh
   rw [hnh] at ch
   clear hcell hhead hhd hh3 hown hBw hhe hnh
   go_wp2_with fail
   go_loopg [5,18] M (fun gg s5 s18 wi => ∃ (j:Nat) (zs:List PL),j≤M∧gg=M-j∧s18=.int .i64 j∧Hid (lP zs=longL ((lP xs).take i) X ++ (X.take j).map (fun x=>h ++ [x])∧∀ y∈zs,y.p≠[]∧PlTy wi y.A y.c y.p)∧wi.ownsRow w.heap.size 27 1 s5 zs.length (cellsP zs)∧Below w.heap.size w wi∧HeadV wi Ah chh h)
   case atStart=>exact ⟨0,ys,Nat.zero_le _,rfl,rfl,(⟨by rw [HY.out.1];simp,HY.out.2⟩:_∧_),HOw.out,HBw.out,HHd.out⟩
   case round =>
    obtain ⟨wj,rfl⟩:∃ wj:World,wj=wr:=⟨_,rfl⟩
    obtain ⟨j,zs,hj,rfl,rfl,HZ,hown,hBj,hHj⟩:=hrel
    have HBj:Hid (Below w.heap.size w wj):=hBj
    have HHj:Hid (HeadV wj Ah chh h):=hHj
    have HO:Hid (wj.ownsRow w.heap.size 27 1 u5 zs.length (cellsP zs)):=hown
    have hZL:zs.length=i*M+j:=by
     have h1:zs.length=(lP zs).length:=(lP_len zs).symm
     rw [h1,HZ.out.1,List.length_append,longL_len,HM.out,List.length_take,lP_len,HN.out,Nat.min_eq_left (by omega),List.length_map,List.length_take,HM.out,Nat.min_eq_left hj]
    have hiM:i*M≤20736*12:=Nat.mul_le_mul (by omega) hX
    by_cases hjl:j<M
    ·have hji:(j:Int)<(M:Int):=by omega
     have hjX:j<X.length:=by rw [HM.out];exact hjl
     obtain ⟨hcM,h0 | ⟨bm,rfl,hbm,hcellm⟩⟩:=HI.out.later hBj
     ·rw [h0] at hjX;simp at hjX
     have cx:=hcellm j hjX
     rw [HM.out] at hcM
     have HNj:Hid ((X.take (j+1)).map (fun x=>h ++ [x])=(X.take j).map (fun x=>h ++ [x]) ++ [h ++ [X.getD j 0]]):=map_take hjX
     generalize X.getD j 0=x at cx HNj
     have hbw:=catW_below wj Ah nh chh x
     obtain ⟨k0,k1,k2⟩:=catW_1 wj Ah nh chh x
     have hcat:=concat_any (wj.heap.size+1) wj.heap.size Ah chh h x (catW wj Ah nh chh x) HH3.out (hHj.later hbw) (by rw [HNH.out];exact k0) k1 k2
     have HBc:Hid (Below wj.heap.size wj (catW wj Ah nh chh x)):=hbw
     rw [List.length_append,HNH.out,List.length_singleton] at hcat
     have HZL:Hid (zs.length=i*M+j∧i*M≤248832):=⟨hZL,by omega⟩
     unfold catW at hcat
     clear hcellm hjX hown hBj hHj hbw k0 k1 k2 hZL hiM
     go_wp2_with fail
     refine hcat.mono ?_
     rintro e w1 ⟨⟨A',c',rfl,hT⟩,hb1⟩
     have hB1:Below wj.heap.size wj w1:=onB HBc.out (by unfold catW;exact hb1)
     have HB1:Hid (Below w.heap.size w w1):=onB HBj.out hB1
     have HO1:Hid (w1.ownsRow w.heap.size 27 1 u5 zs.length (cellsP zs)):=own_later HO.out hB1
     have HZ1:Hid (∀ y∈zs,y.p≠[]∧PlTy w1 y.A y.c y.p):=fun y hy=>⟨(HZ.out.2 y hy).1,(HZ.out.2 y hy).2.later hB1⟩
     have HT1:Hid (PlTy w1 A' c' (h ++ [x])):=hT
     have HH1:Hid (HeadV w1 Ah chh h):=HHj.out.later hB1
     have hsz:=HB1.out.size
     clear hb1 hT hB1 hcat cx
     go_wp2_with (at_builtin;refine wpList_append_own _ rfl _ _ 53 rfl w.heap.size 27 i0 (.slice none 0 0) 1 24 Tryz.underlying53 hi0 hz0 hz1 hz2 rfl (by decide) _ _ _ rfl (HO1.out.alloc _) ⟨w1.heap.size,0,none⟩ 1 1 [.slice A' (nh+1) c'] rfl rfl one_cell ?qe3 ?qe4 ?qe5 ?qe6 ?_)
     case qe3=>intro u hu;simp at hu;subst hu;rfl
     case qe4=>have:=HZL.out;simp only [maxLen];omega
     case qe5=>have:=HZL.out;omega
     case qe6=>simp;omega
     intro v' w2 hown' hgrow hnil
     have HB2:Hid (Below w.heap.size w w2):=grown_own HB1.out HO1.out hgrow
     have hal:∀ {B:Option Addr} {d:Nat} {Y:List Int},PlTy w1 B d Y→PlTy w2 B d Y:=fun hY=>plty_row (hY.later (by go_grown)) (HO1.out.alloc _) hgrow
     have HZ2:Hid (lP (zs ++ [(⟨h ++ [x],A',c'⟩:PL)])=longL ((lP xs).take i) X ++ (X.take (j+1)).map (fun x=>h ++ [x])∧∀ y∈zs ++ [(⟨h ++ [x],A',c'⟩:PL)],y.p≠[]∧PlTy w2 y.A y.c y.p):=by
      refine ⟨by rw [lP_append,HZ.out.1,HNj.out,List.append_assoc];rfl,fun y hy=>?_⟩
      rcases List.mem_append.1 hy with hy | hy
      ·exact ⟨(HZ1.out y hy).1,hal (HZ1.out y hy).2⟩
      ·rw [List.mem_singleton.1 hy]
       exact ⟨by simp,hal HT1.out⟩
     have HO2:Hid (w2.ownsRow w.heap.size 27 1 v' (zs ++ [(⟨h ++ [x],A',c'⟩:PL)]).length (cellsP (zs ++ [(⟨h ++ [x],A',c'⟩:PL)]))):=by
      show World.ownsRow ..
      rw [cellsP_append,List.length_append]
      have e:cellsP [(⟨h ++ [x],A',c'⟩:PL)]=[.slice A' (nh+1) c']:=by simp [cellsP,HNH.out]
      rw [e]
      exact hown'
     have HH2:Hid (HeadV w2 Ah chh h):=by
      rcases HH1.out with hh | ⟨h1,hh⟩
      ·exact Or.inl hh
      ·exact Or.inr ⟨h1,hal hh⟩
     clear hown' hgrow hnil hal
     go_wp2_with fail
     go_roundg (M-(j+1))
     case measure=>omega
     case rel=>exact ⟨j+1,_,by omega,rfl,by go_num,HZ2,HO2.out,HB2.out,HH2.out⟩
    ·have hje:j=M:=by omega
     subst hje
     have HY2:Hid (lP zs=longL ((lP xs).take (i+1)) X∧∀ y∈zs,y.p≠[]∧PlTy wj y.A y.c y.p):=by
      refine ⟨?_,HZ.out.2⟩
      have e:X.take j=X:=List.take_of_length_le (by rw [HM.out];exact Nat.le_refl _)
      rw [HZ.out.1,HNx.out,e]
     clear hBj hHj hown hZL hiM
     go_wp2_with fail
     go_roundg (N-(i+1))
     case measure=>omega
     case rel=>exact ⟨i+1,zs,by omega,rfl,by go_num,HY2,HO.out,HBj.out⟩
  ·have hie:i=N:=by omega
   subst hie
   have HFin:Hid (lP ys=longL (lP xs) X):=by show _=_;rw [HY.out.1,List.take_of_length_le (by rw [lP_len,HN.out];exact Nat.le_refl _)]
   clear hown hBw
   go_wp2_with fail
   go_ret
   obtain ⟨A',c',h1,h2⟩:=pls_own HOw.out HY.out.2
   exact ⟨⟨A',c',ys,by rw [←h1];rfl,h2,HFin.out⟩,HBw.out⟩
set_option maxHeartbeats 8000000 in
theorem rlfs_any (A0:Option Addr) (cap n:Nat) (D:Nat→Dm) (A:Nat→Option Addr) (C:Nat→Nat) (Ap:Option Addr) (cp:Nat) (p:List Int) (w:World) (hp:InO D n p) (hM:DimsV w A0 cap n D A C) (hP:PlAt w Ap cp p) :
  Calls Tryz.prog 25 #[.agg #[.slice A0 n cap],.slice Ap p.length cp] w fun e w'=>(∃ A' c' ys,e=.returned (.tuple #[.slice A' ys.length c',.nilIface])∧PlsV w' A' c' ys∧lP ys=lfTo D p n)∧Below w.heap.size w w':=by
 obtain ⟨hn1,hn4,-,hd⟩:=allErr_some hp.right
 have hB0:=ownOut_below w A0 n cap 25
 have h:=rls_any A0 cap n D A C Ap cp p (ownOut w A0 n cap 25) hp (hM.later hB0) (hP.later hB0)
 have HB0:Hid (Below w.heap.size w (ownOut w A0 n cap 25)):=hB0
 have hn':(n:Int)≤4:=by omega
 have HD:Hid (∀ i,i<n→1≤(D i).n∧(D i).n≤12):=hd
 generalize p.length=np at h
 clear hM hP hB0 hp hd
 go_enter Tryz.func25,Tryz.ntmps25
 go_wp2_with fail
 refine h.mono ?_
 rintro e w1 ⟨⟨g,rfl,hS⟩,hb1⟩
 have HB1:Hid (Below w.heap.size w w1):=onB HB0.out hb1
 obtain ⟨v1,hv1⟩:∃ v,w1.alloc (.cells #[.slice none 0 0] 27)=v:=⟨_,rfl⟩
 have hBv:Below w1.heap.size w1 v1:=by rw [←hv1];go_grown
 have HBv:Hid (Below w.heap.size w v1):=onB HB1.out hBv
 have HSv:Hid (SlB v1 g n n (lfs D p)):=hS.later hBv
 have HPv:Hid (PlsV v1 (some ⟨w1.heap.size,0,none⟩) 1 [noP]):=by
  have hc:v1.heap[w1.heap.size]?=some (.cells #[.slice none 0 0] 27 (0,0)):=by rw [←hv1];exact heap_alloc_new ..
  refine ⟨Nat.le_refl _,Or.inr ⟨w1.heap.size,0,rfl,(Array.getElem?_eq_some_iff.1 hc).1,fun k hk=>?_⟩,fun x hx=>?_⟩
  ·have hk0:k=0:=by simpa using hk
   subst hk0
   rw [Lib.cell_of_heap hc]
   rfl
  ·rw [List.mem_singleton.1 hx]
   exact Or.inl ⟨rfl,rfl,rfl⟩
 clear hb1 h hS hBv
 go_wp2_with fail
 clear hv1
 go_loopg [8,23] n (fun gg s8 s23 wr => ∃ (k:Nat) (Ac:Option Addr) (cc:Nat) (xs:List PL),k≤n∧gg=n-k∧s23=.int .i64 k∧s8=.slice Ac xs.length cc∧Hid (PlsV wr Ac cc xs∧lP xs=lfTo D p k)∧Below v1.heap.size v1 wr)
 case atStart=>exact ⟨0,some ⟨w1.heap.size,0,none⟩,1,[noP],Nat.zero_le _,rfl,rfl,rfl,(⟨HPv.out,rfl⟩:_∧_),Below.refl _ _⟩
 case round =>
  obtain ⟨k,Ac,cc,xs,hk,rfl,rfl,rfl,HX,hBw⟩:=hrel
  have HBw:Hid (Below v1.heap.size v1 wr):=hBw
  by_cases hlt:k<n
  ·have hki:(k:Int)<(n:Int):=by omega
   obtain ⟨Al,cl,hcl,hIl⟩:=(HSv.out.later hBw).get hlt
   have hlen:xs.length≤20736:=by rw [←lP_len,HX.out.2];exact Nat.le_trans (lfTo_len p k) (prod_small (fun j hj=>(HD.out j (by omega)).2) (by omega))
   have hl3:∀ x∈xs,x.p.length≤3:=fun x hx=>by
    have:x.p∈lfTo D p k:=by rw [←HX.out.2];exact List.mem_map.2 ⟨x,hx,rfl⟩
    rw [lfTo_each p k _ this]
    omega
   have hlg:=longer_any Ac cc xs Al cl (lfs D p k) wr hlen (Nat.le_trans (lfs_len D p k) (HD.out k hlt).2) hl3 HX.out.1 hIl
   have HNx:Hid (longL (lP xs) (lfs D p k)=lfTo D p (k+1)):=by show _=_;rw [HX.out.2];rfl
   generalize (lfs D p k).length=nl at hcl hlg
   generalize xs.length=N at hlg
   clear hIl hlen hl3 hBw
   go_wp2_with fail
   refine hlg.mono ?_
   rintro e w2 ⟨⟨A2,c2,ys,rfl,hP2,hl2⟩,hb2⟩
   have HX2:Hid (PlsV w2 A2 c2 ys∧lP ys=lfTo D p (k+1)):=⟨hP2,by rw [hl2,HNx.out]⟩
   have HB2:Hid (Below v1.heap.size v1 w2):=onB HBw.out hb2
   clear hP2 hl2 hb2 hlg
   go_wp2_with fail
   go_roundg (n-(k+1))
   case measure=>omega
   case rel=>exact ⟨k+1,A2,c2,ys,by omega,rfl,by go_num,rfl,HX2,HB2.out⟩
  ·have hke:k=n:=by omega
   subst hke
   clear hBw
   go_wp2_with fail
   go_ret2
   exact ⟨⟨Ac,cc,xs,rfl,HX.out.1,HX.out.2⟩,onB HBv.out HBw.out⟩
theorem rlfs_bad (A0:Option Addr) (cap n:Nat) (D:Nat→Dm) (A:Nat→Option Addr) (C:Nat→Nat) (Ap:Option Addr) (cp:Nat) (p:List Int) (w:World) (hp:placeErr D n p≠0) (hM:DimsV w A0 cap n D A C) (hP:PlAt w Ap cp p) :
  Calls Tryz.prog 25 #[.agg #[.slice A0 n cap],.slice Ap p.length cp] w fun e w'=>e=.returned (.tuple #[.slice none 0 0,.iface 46 (.int .i64 (placeErr D n p))])∧Below w.heap.size w w':=by
 have hB0:=ownOut_below w A0 n cap 25
 have h:=rls_bad A0 cap n D A C Ap cp p (ownOut w A0 n cap 25) hp (hM.later hB0) (hP.later hB0)
 have HB0:Hid (Below w.heap.size w (ownOut w A0 n cap 25)):=hB0
 generalize p.length=np at h
 generalize placeErr D n p=c at h
 clear hM hP hB0 hp
 go_enter Tryz.func25,Tryz.ntmps25
 go_wp2_with fail
 refine h.mono ?_
 rintro e w1 ⟨rfl,hb1⟩
 go_wp2_with fail
 go_ret2
 exact ⟨rfl,onB HB0.out hb1⟩
theorem IntB.plty {w:World} {g:Nat} {L:List Int} (h:IntB w g L):PlTy w (some ⟨g,0,none⟩) L.length L :=
 ⟨Nat.le_refl _,Or.inr ⟨g,0,_,_,rfl,h,fun j hj=>by rw [Nat.zero_add];exact h.cell hj⟩⟩
set_option maxHeartbeats 4000000 in
theorem rat_ty (A0:Option Addr) (cap n:Nat) (D:Nat→Dm) (A:Nat→Option Addr) (C:Nat→Nat) (X:Nat) (w:World) (hR:(allErr D n).2.2=0) (hX:X<prodN D n) (hM:DimsV w A0 cap n D A C):Calls Tryz.prog 39 #[.agg #[.slice A0 n cap],.int .i64 X] w fun e w'=>(∃ A' c',e=.returned (.slice A' (placeL D n X).length c')∧PlTy w' A' c' (placeL D n X))∧Below w.heap.size w w':=by
 obtain ⟨hn1,hn4,hp3,hd⟩:=allErr_some hR
 have HD:Hid (∀ i,i<n→1≤(D i).n∧(D i).n≤12):=hd
 have hn':(n:Int)≤4:=by omega
 have hn1':(1:Int)≤(n:Int):=by omega
 have hX3:X≤3000:=by omega
 have hmk:=run_make_row' (P:=Tryz.prog) 27 3 (.int .i64 0) 8 Tryz.underlying27 Tryz.infoIntP rfl .i64 .i64 n (by omega) (by omega)
 obtain ⟨hcap,h0 | ⟨b,o,rfl,hMs⟩⟩:=hM
 ·omega
 obtain ⟨w1,hw1⟩:∃ w1,w1=ownOut w (some ⟨b,o,none⟩) n cap 25:=⟨_,rfl⟩
 have hB1:Below w.heap.size w w1:=by rw [hw1];exact ownOut_below ..
 have h2:w1.cell? ⟨w.heap.size,0,none⟩=some (.slice (some ⟨b,o,none⟩) n cap):=by rw [hw1];exact ownOut_at ..
 have hz1:w1.heap.size=w.heap.size+1:=by rw [hw1];exact ownOut_size ..
 have HMs:Hid (DimsAt w1 b o n D A C):=hMs.later hB1
 have HB1:Hid (Below w.heap.size w w1):=hB1
 have H2:Hid (w1.cell? ⟨w.heap.size,0,none⟩=some (.slice (some ⟨b,o,none⟩) n cap)):=h2
 have HZ1:Hid (w1.heap.size=w.heap.size+1):=hz1
 have HW1:Hid (w1=ownOut w (some ⟨b,o,none⟩) n cap 25):=hw1
 have HI0:Hid (IntB (w1.alloc (.cells (madeCells #[.int .i64 0] n) 3)) w1.heap.size (digL D n X 0)):=by show IntB _ _ _;rw [digL_zero];exact IntB.made w1 n
 have HBm:Hid (Below w1.heap.size w1 (w1.alloc (.cells (madeCells #[.int .i64 0] n) 3))):=by show Below _ _ _;go_grown
 rw [hw1] at HI0 HBm
 unfold ownOut at HI0 HBm
 clear hd hMs hB1 h2 hz1 hw1 hX hp3 hR
 go_enter Tryz.func39,Tryz.ntmps39
 go_wp2_with fail
 clear hmk
 go_loopg [1,6,7] n (fun g s1 s6 s7 wr => ∃ (r:Nat),r≤n∧g=n-r∧s6=.int .i64 ((n:Int)-1-r)∧s1=.int .i64 (restAt D n X r)∧IntB wr w1.heap.size (digL D n X r)∧Below w1.heap.size w1 wr)
 case atStart=>exact ⟨0,Nat.zero_le _,rfl,by simp,rfl,by rw [HW1.out];exact HI0.out,by rw [HW1.out];exact HBm.out⟩
 case round =>
  obtain ⟨r,hr,rfl,rfl,rfl,hI,hBw⟩:=hrel
  have HI:Hid (IntB wr w1.heap.size (digL D n X r)):=hI
  have HBw:Hid (Below w1.heap.size w1 wr):=hBw
  by_cases hlt:r<n
  ·obtain ⟨k,hk⟩:∃ k:Nat,k=n-1-r:=⟨_,rfl⟩
   have hki:(n:Int)-1-(r:Int)=(k:Int):=by omega
   rw [hki]
   have HK:Hid (k=n-1-r):=hk
   have hkn:k<n:=by omega
   obtain ⟨-,-,h3,-⟩:=(HMs.out.later hBw).2 k hkn
   have c2:wr.cell? ⟨w.heap.size,0,none⟩=some (.slice (some ⟨b,o,none⟩) n cap):=(hBw.cell (p:=⟨w.heap.size,0,none⟩) (by show w.heap.size<_;rw [HZ1.out];omega)).trans H2.out
   have hkn':(k:Int)<(n:Int):=by omega
   have c4:=hI.cell (j:=k) (by rw [digL_len];exact hkn)
   have c5:=hI.frozen k
   rw [HZ1.out] at c4 c5
   obtain ⟨hd1,hd2⟩:=HD.out k hkn
   have hre:=restAt_le D n X r
   have HR1:Hid (restAt D n X (r+1)=restAt D n X r / (D k).n):=by show _=_;rw [restAt,hk]
   have HR2:Hid (digitAt D n X k=restAt D n X r % (D k).n):=by show _=_;rw [digitAt,show n-1-k=r by omega]
   have HS:Hid ((digL D n X r).set k (digitAt D n X k:Int)=digL D n X (r+1)):=by show _=_;rw [hk];exact digL_set D n X r hlt
   generalize (digL D n X r).getD k 0=old at c4
   generalize restAt D n X r=R at HR1 HR2 hre
   generalize hm:(D k).n=m at h3 hd1 hd2 HR1 HR2
   have hm1:(1:Int)≤(m:Int):=by omega
   have hm2:(m:Int)≤12:=by omega
   have hRR:(R:Int)≤3000:=by omega
   have hR0:(0:Int)≤(R:Int):=by omega
   have hm0:((m:Int) == 0)=false:=by simp;omega
   clear hI hBw hk hki hm
   go_wp2_with fail
   go_roundg (n-(r+1))
   case measure=>omega
   case rel =>
    have hdm:=Nat.div_le_self R m
    have hw:wrap64 ((R:Int) / (m:Int))=((R / m:Nat):Int):=by
     rw [←Int.natCast_ediv]
     exact wrap_small (Nat.le_trans hdm (by omega))
    refine ⟨r+1,by omega,rfl,?_,?_,?_,HBw.out.setCell (by show w1.heap.size≤w.heap.size+1;rw [HZ1.out];exact Nat.le_refl _) _⟩
    ·have:=HK.out
     congr 1
     omega
    ·rw [hw,HR1.out]
    ·have hs:=HI.out.set k (digitAt D n X k:Int)
     rw [HS.out,HR2.out,Int.natCast_emod] at hs
     rw [HZ1.out] at hs ⊢
     exact hs
  ·have hre:r=n:=by omega
   subst hre
   have hk0:(r:Int)-1-(r:Int) = -1:=by omega
   rw [hk0]
   clear hI hBw
   go_wp2_with fail
   go_ret
   have hp:=HI.out.plty
   rw [digL_all] at hp
   rw [placeL_len] at hp ⊢
   rw [HZ1.out] at hp
   exact ⟨⟨_,_,rfl,hp⟩,onB HB1.out HBw.out⟩
set_option maxHeartbeats 8000000 in
theorem rrlf_any (A0:Option Addr) (cap n:Nat) (D:Nat→Dm) (A:Nat→Option Addr) (C:Nat→Nat) (Ap:Option Addr) (cp:Nat) (p:List Int) (w:World) (hp:InO D n p) (hM:DimsV w A0 cap n D A C) (hP:PlAt w Ap cp p) :
  Calls Tryz.prog 20 #[.agg #[.slice A0 n cap],.slice Ap p.length cp] w fun e w'=>(∃ A' c' ys,e=.returned (.slice A' ys.length c')∧PlsV w' A' c' ys∧lP ys=lfTo D p n)∧Below w.heap.size w w':=by
 obtain ⟨i0,hi0,hz0,hz1,hz2⟩:=info_parts Tryz.infoPla
 have hR:=hp.right
 obtain ⟨hn1,hn4,hp3,hd⟩:=allErr_some hR
 have HR:Hid ((allErr D n).2.2=0):=hR
 have HI:Hid (InO D n p):=hp
 have HM:Hid (DimsV w A0 cap n D A C):=hM
 have HP:Hid (PlAt w Ap cp p):=hP
 have hB0:=ownOut_below w A0 n cap 25
 obtain ⟨W,hW⟩:∃ W,w.alloc (.cells #[.slice A0 n cap] 25)=W:=⟨_,rfl⟩
 have hWo:ownOut w A0 n cap 25=W:=hW
 rw [hWo] at hB0
 have cW:W.cell? ⟨w.heap.size,0,none⟩=some (.slice A0 n cap):=by rw [←hWo];exact ownOut_at ..
 have hzW:w.heap.size<W.heap.size:=by rw [←hWo,ownOut_size];omega
 have HB0:Hid (Below w.heap.size w W):=hB0
 have hsz:Calls Tryz.prog 38 #[.agg #[.slice A0 n cap]] W fun e w'=>e=.returned (.int .i64 (prodN D n))∧Below W.heap.size W w':=by
  obtain ⟨-,h0 | ⟨b,o,rfl,hMs⟩⟩:=hM.later hB0
  ·omega
  ·exact osize_any b o n cap D A C W hn4 (fun j hj=>(hd j hj).2) hMs
 obtain ⟨PN,hPN⟩:∃ PN,prodN D n=PN:=⟨_,rfl⟩
 have HPN:Hid (prodN D n=PN):=hPN
 rw [hPN] at hsz hp3
 have hp3':(PN:Int)≤3000:=by omega
 have HNE:Hid (∀ x,placeL D n x≠[]):=fun x e=>by have:=placeL_len D n x;rw [e] at this;simp at this;omega
 obtain ⟨np,hnp⟩:∃ np,p.length=np:=⟨_,rfl⟩
 have HNP:Hid (p.length=np):=hnp
 rw [hnp]
 clear hM hP hR hd hB0 hWo hPN hp hnp
 go_enter Tryz.func20,Tryz.ntmps20
 go_wp2_with fail
 clear hW
 refine hsz.mono ?_
 rintro e w1 ⟨rfl,hb1⟩
 have HB1:Hid (Below w.heap.size w w1):=onB HB0.out hb1
 have HBo:Hid (w.heap.size<w1.heap.size∧w1.cell? ⟨w.heap.size,0,none⟩=some (.slice A0 n cap)):=⟨Nat.lt_of_lt_of_le hzW hb1.size,(hb1.cell (p:=⟨w.heap.size,0,none⟩) hzW).trans cW⟩
 clear hb1 hsz cW hzW
 go_wp2_with fail
 go_loopg [5,7] PN (fun g s5 s7 wr => ∃ (k:Nat) (ys:List PL),k≤PN∧g=PN-k∧s7=.int .i64 k∧Hid (lP ys=docL D n p k∧∀ y∈ys,y.p≠[]∧PlTy wr y.A y.c y.p)∧wr.ownsRow w1.heap.size 27 1 s5 ys.length (cellsP ys)∧Below w1.heap.size w1 wr)
 case atStart=>exact ⟨0,[],Nat.zero_le _,rfl,rfl,(⟨rfl,fun y hy=>by cases hy⟩:_∧_),World.ownsRow_nil _ _ _ _,Below.refl _ _⟩
 case round =>
  obtain ⟨k,ys,hk,rfl,rfl,HY,hown,hBw⟩:=hrel
  have HBw:Hid (Below w1.heap.size w1 wr):=hBw
  have HOw:Hid (wr.ownsRow w1.heap.size 27 1 u5 ys.length (cellsP ys)):=hown
  have HYL:Hid (ys.length≤3000):=by show _≤_;rw [←lP_len,HY.out.1];exact Nat.le_trans (docL_len D n p k) (by omega)
  have HBo2:Hid (w.heap.size<wr.heap.size∧wr.cell? ⟨w.heap.size,0,none⟩=some (.slice A0 n cap)):=⟨Nat.lt_of_lt_of_le HBo.out.1 hBw.size,(hBw.cell (p:=⟨w.heap.size,0,none⟩) HBo.out.1).trans HBo.out.2⟩
  have cr:=HBo2.out.2
  have HBr:Hid (Below w.heap.size w wr):=onB HB1.out hBw
  by_cases hlt:k<PN
  ·have hki:(k:Int)<(PN:Int):=by omega
   have hst:=docL_step D n p k
   have hat:=rat_ty A0 cap n D A C k wr HR.out (by rw [HPN.out];exact hlt) (HM.out.later HBr.out)
   have HIq:Hid (InO D n (placeL D n k)):=placeL_in HR.out
   obtain ⟨q,hq⟩:∃ q,placeL D n k=q:=⟨_,rfl⟩
   have HQn:Hid (q≠[]):=by rw [←hq];exact HNE.out k
   rw [hq] at hat hst HIq
   obtain ⟨nq,hnq⟩:∃ nq,q.length=nq:=⟨_,rfl⟩
   have HNQ:Hid (q.length=nq):=hnq
   rw [hnq] at hat
   have HST:Hid (docL D n p (k+1)=docL D n p k ++ (if (leafV D n q && inTo D p q n)=true then [q] else [])):=hst
   clear hown hBw hst hq hnq
   go_wp2_with fail
   refine hat.mono ?_
   rintro e w2 ⟨⟨Aq,cq,rfl,hT⟩,hb2⟩
   have HT2:Hid (PlTy w2 Aq cq q):=hT
   have HB2:Hid (Below wr.heap.size wr w2):=hb2
   have c2:=(hb2.cell (p:=⟨w.heap.size,0,none⟩) HBo2.out.1).trans HBo2.out.2
   have hlf:=rleafplace_any A0 cap n D A C Aq cq q w2 HIq.out (HM.out.later (onB HBr.out hb2)) hT.pl
   rw [HNQ.out] at hlf
   clear hb2 hT hat cr
   go_wp2_with fail
   refine hlf.mono ?_
   rintro e w3 ⟨rfl,hb3⟩
   have HT3:Hid (PlTy w3 Aq cq q):=HT2.out.later hb3
   have HB3:Hid (Below wr.heap.size wr w3):=onB HB2.out hb3
   have c3:=(HB3.out.cell (p:=⟨w.heap.size,0,none⟩) HBo2.out.1).trans HBo2.out.2
   clear hb3 hlf c2 HT2 HB2
   obtain ⟨tl,htl⟩:∃ t,leafV D n q=t:=⟨_,rfl⟩
   have HTL:Hid (leafV D n q=tl):=htl
   rw [htl]
   clear htl
   cases tl
   ·have HY3:Hid (lP ys=docL D n p (k+1)∧∀ y∈ys,y.p≠[]∧PlTy w3 y.A y.c y.p):=⟨by rw [HST.out,HTL.out,HY.out.1];simp,fun y hy=>⟨(HY.out.2 y hy).1,(HY.out.2 y hy).2.later HB3.out⟩⟩
    have HO3:Hid (w3.ownsRow w1.heap.size 27 1 u5 ys.length (cellsP ys)):=own_later HOw.out HB3.out
    go_wp2_with fail
    go_roundg (PN-(k+1))
    case measure=>omega
    case rel=>exact ⟨k+1,ys,by omega,rfl,by go_num,HY3,HO3.out,onB HBw.out HB3.out⟩
   ·have hpw:=rpw_any A0 cap n D A C Ap cp p Aq cq q w3 HI.out HIq.out (HM.out.later (onB HBr.out HB3.out)) (HP.out.later (onB HBr.out HB3.out)) HT3.out.pl
    rw [HNQ.out,HNP.out] at hpw
    generalize pwTo D p q n=pw at hpw
    obtain ⟨ti,hti⟩:∃ t,inTo D p q n=t:=⟨_,rfl⟩
    have HTI:Hid (inTo D p q n=ti):=hti
    rw [hti] at hpw
    clear hti
    cases ti
    ·go_wp2_with fail
     refine hpw.mono ?_
     rintro e w4 ⟨rfl,hb4⟩
     have HB4:Hid (Below wr.heap.size wr w4):=onB HB3.out hb4
     have HY4:Hid (lP ys=docL D n p (k+1)∧∀ y∈ys,y.p≠[]∧PlTy w4 y.A y.c y.p):=⟨by rw [HST.out,HTI.out,HY.out.1];simp,fun y hy=>⟨(HY.out.2 y hy).1,(HY.out.2 y hy).2.later HB4.out⟩⟩
     have HO4:Hid (w4.ownsRow w1.heap.size 27 1 u5 ys.length (cellsP ys)):=own_later HOw.out HB4.out
     clear hb4 hpw c3
     go_wp2_with fail
     go_roundg (PN-(k+1))
     case measure=>omega
     case rel=>exact ⟨k+1,ys,by omega,rfl,by go_num,HY4,HO4.out,onB HBw.out HB4.out⟩
    ·go_wp2_with fail
     refine hpw.mono ?_
     rintro e w4 ⟨rfl,hb4⟩
     have HB4:Hid (Below wr.heap.size wr w4):=onB HB3.out hb4
     have HB14:Hid (Below w1.heap.size w1 w4):=onB HBw.out HB4.out
     have HT4:Hid (PlTy w4 Aq cq q):=HT3.out.later hb4
     have HY4:Hid (∀ y∈ys,y.p≠[]∧PlTy w4 y.A y.c y.p):=fun y hy=>⟨(HY.out.2 y hy).1,(HY.out.2 y hy).2.later HB4.out⟩
     have HO4:Hid (w4.ownsRow w1.heap.size 27 1 u5 ys.length (cellsP ys)):=own_later HOw.out HB4.out
     have hsz4:=HB14.out.size
     clear hb4 hpw c3
     go_wp2_with (at_builtin;refine wpList_append_own _ rfl _ _ 53 rfl w1.heap.size 27 i0 (.slice none 0 0) 1 24 Tryz.underlying53 hi0 hz0 hz1 hz2 rfl (by decide) _ _ _ rfl (HO4.out.alloc _) ⟨w4.heap.size,0,none⟩ 1 1 [.slice Aq nq cq] rfl rfl one_cell ?qe3 ?qe4 ?qe5 ?qe6 ?_)
     case qe3=>intro u hu;simp at hu;subst hu;rfl
     case qe4=>have:=HYL.out;simp only [maxLen];omega
     case qe5=>have:=HYL.out;omega
     case qe6=>simp;omega
     intro v' w5 hown' hgrow hnil
     have HB5:Hid (Below w1.heap.size w1 w5):=grown_own HB14.out HO4.out hgrow
     have hal:∀ {B:Option Addr} {d:Nat} {Y:List Int},PlTy w4 B d Y→PlTy w5 B d Y:=fun hY=>plty_row (hY.later (by go_grown)) (HO4.out.alloc _) hgrow
     have HY5:Hid (lP (ys ++ [(⟨q,Aq,cq⟩:PL)])=docL D n p (k+1)∧∀ y∈ys ++ [(⟨q,Aq,cq⟩:PL)],y.p≠[]∧PlTy w5 y.A y.c y.p):=by
      refine ⟨by rw [lP_append,HY.out.1,HST.out,HTL.out,HTI.out];rfl,fun y hy=>?_⟩
      rcases List.mem_append.1 hy with hy | hy
      ·exact ⟨(HY4.out y hy).1,hal (HY4.out y hy).2⟩
      ·rw [List.mem_singleton.1 hy]
       exact ⟨HQn.out,hal HT4.out⟩
     have HO5:Hid (w5.ownsRow w1.heap.size 27 1 v' (ys ++ [(⟨q,Aq,cq⟩:PL)]).length (cellsP (ys ++ [(⟨q,Aq,cq⟩:PL)]))):=by
      show World.ownsRow ..
      rw [cellsP_append,List.length_append]
      have e:cellsP [(⟨q,Aq,cq⟩:PL)]=[.slice Aq nq cq]:=by simp [cellsP,HNQ.out]
      rw [e]
      exact hown'
     clear hown' hgrow hnil hal
     go_wp2_with fail
     go_roundg (PN-(k+1))
     case measure=>omega
     case rel=>exact ⟨k+1,_,by omega,rfl,by go_num,HY5,HO5.out,HB5.out⟩
  ·have hke:k=PN:=by omega
   subst hke
   have HFin:Hid (lP ys=lfTo D p n):=by show _=_;rw [HY.out.1,←HPN.out];exact docL_all HR.out p
   clear hown hBw cr
   go_wp2_with fail
   go_ret
   obtain ⟨A',c',h1,h2⟩:=pls_own HOw.out HY.out.2
   exact ⟨⟨A',c',ys,by rw [←h1];rfl,h2,HFin.out⟩,HBr.out⟩
theorem keepQ2 {W w':World} {b o b' o':Nat} {u v:Value} (h:b<W.heap.size∧b'<W.heap.size∧W.cell? ⟨b,o,none⟩=some u∧W.cell? ⟨b',o',none⟩=some v) (hB:Below W.heap.size W w'):Below W.heap.size W w'∧w'.cell? ⟨b,o,none⟩=some u∧w'.cell? ⟨b',o',none⟩=some v :=
 ⟨hB,(hB.cell (p:=⟨b,o,none⟩) h.1).trans h.2.2.1,(hB.cell (p:=⟨b',o',none⟩) h.2.1).trans h.2.2.2⟩
end Go.Proofs.YtenlladggdcfnaaGreatDoor
