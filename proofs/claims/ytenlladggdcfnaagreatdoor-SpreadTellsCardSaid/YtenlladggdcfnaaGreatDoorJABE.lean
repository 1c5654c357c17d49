/-
  Rows of places in memory; places, each with each member behind it, and the leafs of a place: what longer and Leafs of package roll answer, called in whatever memory.
-/
import Derived.Test.YtenlladggdcfnaaGreatDoorJAAX
import Derived.Test.YtenlladggdcfnaaGreatDoorJABA
namespace Go.Proofs.YtenlladggdcfnaaGreatDoor
open Go Go.ChangeShapes Go.WideShapes Go.ChangeAt Go.RowKit
set_option maxRecDepth 20000
structure PL where
 p:List Int
 A:Option Addr
 c:Nat
def noP:PL:=⟨[],none,0⟩
def lP (xs:List PL):List (List Int):=xs.map PL.p
theorem lP_len (xs:List PL):(lP xs).length=xs.length:=by simp [lP]
theorem lP_append (a b:List PL):lP (a ++ b)=lP a ++ lP b:=by simp [lP]
def cellsP (xs:List PL):List Value:=xs.map fun x=>.slice x.A x.p.length x.c
theorem cellsP_append (a b:List PL):cellsP (a ++ b)=cellsP a ++ cellsP b:=by simp [cellsP]
theorem pl_mem {xs:List PL} {k:Nat} (h:k<xs.length):xs.getD k noP∈xs:=by
 rw [List.getD_eq_getElem?_getD,List.getElem?_eq_getElem h]
 exact List.getElem_mem h
theorem lP_at (xs:List PL) (k:Nat):(lP xs).getD k []=(xs.getD k noP).p:=by
 rw [List.getD_eq_getElem?_getD,List.getD_eq_getElem?_getD,lP,List.getElem?_map]
 cases xs[k]? <;> rfl
theorem cellsP_at {xs:List PL} {k:Nat} (h:k<xs.length):(cellsP xs)[k]?=some (.slice (xs.getD k noP).A (xs.getD k noP).p.length (xs.getD k noP).c):=by
 simp [cellsP,List.getD,h]
def PlsV (w:World) (A:Option Addr) (cap:Nat) (xs:List PL):Prop:=xs.length≤cap∧(xs=[]∨∃ b o,A=some ⟨b,o,none⟩∧b<w.heap.size∧∀ k,k<xs.length→w.cell? ⟨b,o+k,none⟩=some (.slice (xs.getD k noP).A (xs.getD k noP).p.length (xs.getD k noP).c))∧∀ x∈xs,HeadV w x.A x.c x.p
theorem PlsV.later {w w':World} {A:Option Addr} {cap:Nat} {xs:List PL} (h:PlsV w A cap xs) (hB:Below w.heap.size w w'):PlsV w' A cap xs:=by
 obtain ⟨h1,h2,h3⟩:=h
 refine ⟨h1,?_,fun x hx=>(h3 x hx).later hB⟩
 rcases h2 with h2 | ⟨b,o,h2,h4,h5⟩
 ·exact Or.inl h2
 ·exact Or.inr ⟨b,o,h2,Nat.lt_of_lt_of_le h4 hB.size,fun k hk=>(hB.cell (p:=⟨b,o+k,none⟩) h4).trans (h5 k hk)⟩
theorem PlsV.nil (w:World) (A:Option Addr) (cap:Nat):PlsV w A cap []:=⟨Nat.zero_le _,Or.inl rfl,fun x hx=>by cases hx⟩
theorem pls_own {w:World} {base:Nat} {v:Value} {xs:List PL} (h:w.ownsRow base 27 1 v xs.length (cellsP xs)) (hp:∀ x∈xs,x.p≠[]∧PlTy w x.A x.c x.p):∃ A c,v=.slice A xs.length c∧PlsV w A c xs:=by
 rcases h.2 with ⟨rfl,h0⟩ | ⟨g,cap,cur,rfl,hb,hg,hc,_,_,_⟩
 ·have:xs=[]:=List.eq_nil_of_length_eq_zero h0
  subst this
  exact ⟨none,0,rfl,PlsV.nil _ _ _⟩
 ·refine ⟨_,cap,rfl,hc,Or.inr ⟨g,0,rfl,(Array.getElem?_eq_some_iff.1 hg).1,fun k hk=>?_⟩,fun x hx=>Or.inr (hp x hx)⟩
  have y:=h.cells (g:=g) rfl k _ (cellsP_at hk)
  rw [plain_add] at y
  exact y
theorem place_ne_int:(3:Nat)≠27:=by decide
theorem plty_row {w w':World} {base:Nat} {v:Value} {n:Nat} {zs:List Value} {A:Option Addr} {c:Nat} {L:List Int} (h:PlTy w A c L) (hown:w.ownsRow base 27 1 v n zs) (hG:w.grownBy w' v.ownBlock):PlTy w' A c L:=by
 obtain ⟨h1,h2 | ⟨b,o,cs,fr',h2,h3,h4⟩⟩:=h
 ·exact ⟨h1,Or.inl h2⟩
 ·have hne:some b≠v.ownBlock:=by
   intro e
   rcases hown.2 with ⟨rfl,-⟩ | ⟨g,cap,cur,rfl,-,hg,-⟩
   ·cases e
   ·simp only [Value.ownBlock,Option.some.injEq] at e
    rw [e,hg] at h3
    simp only [Option.some.injEq,Obj.cells.injEq] at h3
    exact place_ne_int h3.2.1.symm
  have hb:w'.heap[b]?=w.heap[b]?:=hG.block b (Array.getElem?_eq_some_iff.1 h3).1 hne
  exact ⟨h1,Or.inr ⟨b,o,cs,fr',h2,hb.trans h3,fun j hj=>(World.cell?_of_block (a:=⟨b,o+j,none⟩) hb).trans (h4 j hj)⟩⟩
theorem Tryz.infoPla:(Tryz.prog.info? 27).map (fun i=>(i.zero,i.size,i.bytes))=some (some (.slice none 0 0),1,24):=by kernel_rfl
def catW (w:World) (A:Option Addr) (l c:Nat) (k:Int):World:=(w.alloc (.cells #[.int .i64 k] 3)).alloc (.cells #[.slice A l c,.slice (some ⟨w.heap.size,0,none⟩) 1 1] 27)
theorem catW_below (w:World) (A:Option Addr) (l c:Nat) (k:Int):Below w.heap.size w (catW w A l c k):=by unfold catW;go_grown
theorem catW_1 (w:World) (A:Option Addr) (l c:Nat) (k:Int):(catW w A l c k).cell? ⟨w.heap.size+1,0,none⟩=some (.slice A l c)∧(catW w A l c k).cell? ⟨w.heap.size+1,1,none⟩=some (.slice (some ⟨w.heap.size,0,none⟩) 1 1)∧(catW w A l c k).cell? ⟨w.heap.size,0,none⟩=some (.int .i64 k):=by
 have h:=heap_alloc_new (w.alloc (.cells #[.int .i64 k] 3)) (.cells #[.slice A l c,.slice (some ⟨w.heap.size,0,none⟩) 1 1] 27)
 rw [show (w.alloc (.cells #[.int .i64 k] 3)).heap.size=w.heap.size+1 by simp] at h
 have h0:(catW w A l c k).heap[w.heap.size]?=some (.cells #[.int .i64 k] 3):=by
  unfold catW
  rw [Below.heap_alloc _ _ _ (by simp)]
  exact heap_alloc_new w _
 refine ⟨?_,?_,?_⟩
 ·exact (Lib.cell_of_heap h 0).trans rfl
 ·exact (Lib.cell_of_heap h 1).trans rfl
 ·rw [Lib.cell_of_heap h0];rfl
theorem longL_take {Ps:List (List Int)} {X:List Int} {k:Nat} (h:k<Ps.length):longL (Ps.take (k+1)) X=longL (Ps.take k) X ++ X.map fun x=>Ps.getD k [] ++ [x]:=by
 rw [List.take_succ_eq_append_getElem h,longL_snoc,List.getD_eq_getElem?_getD,List.getElem?_eq_getElem h]
 rfl
theorem map_take {X:List Int} {h:List Int} {j:Nat} (hj:j<X.length):(X.take (j+1)).map (fun x=>h ++ [x])=(X.take j).map (fun x=>h ++ [x]) ++ [h ++ [X.getD j 0]]:=by
 rw [List.take_succ_eq_append_getElem hj,List.map_append,List.getD_eq_getElem?_getD,List.getElem?_eq_getElem hj]
 rfl
set_option maxHeartbeats 8000000 in
theorem longer_any (A:Option Addr) (cap:Nat) (xs:List PL) (AM:Option Addr) (cM:Nat) (X:List Int) (w:World) (hN:xs.length≤20736) (hX:X.length≤12) (h3:∀ x∈xs,x.p.length≤3) (hP:PlsV w A cap xs) (hI:IntsAt w AM cM X) :
  Calls Tryz.prog 50 #[.slice A xs.length cap,.slice AM X.length cM] w fun e w'=>(∃ A' c' ys,e=.returned (.slice A' ys.length c')∧PlsV w' A' c' ys∧lP ys=longL (lP xs) X)∧Below w.heap.size w w':=by
 obtain ⟨i0,hi0,hz0,hz1,hz2⟩:=info_parts Tryz.infoPla
 have HP:Hid (PlsV w A cap xs):=hP
 have HI:Hid (IntsAt w AM cM X):=hI
 have H3:Hid (∀ x∈xs,x.p.length≤3):=h3
 obtain ⟨N,hNe⟩:∃ N,xs.length=N:=⟨_,rfl⟩
 have HN:Hid (xs.length=N):=hNe
 obtain ⟨M,hMe⟩:∃ M,X.length=M:=⟨_,rfl⟩
 have HM:Hid (X.length=M):=hMe
 rw [hNe] at hN
 rw [hMe] at hX
 rw [hNe,hMe]
 have hN':(N:Int)≤20736:=by omega
 have hX':(M:Int)≤12:=by omega
 clear hP hI h3 hNe hMe
 go_enter Tryz.func50,Tryz.ntmps50
 go_wp2_with fail
 go_loopg [5,12] N (fun g s5 s12 wr => ∃ (i:Nat) (ys:List PL),i≤N∧g=N-i∧s12=.int .i64 i∧Hid (lP ys=longL ((lP xs).take i) X∧∀ y∈ys,y.p≠[]∧PlTy wr y.A y.c y.p)∧wr.ownsRow w.heap.size 27 1 s5 ys.length (cellsP ys)∧Below w.heap.size w wr)
 case atStart=>exact ⟨0,[],Nat.zero_le _,rfl,rfl,(⟨rfl,fun y hy=>by cases hy⟩:_∧_),World.ownsRow_nil _ _ _ _,Below.refl _ _⟩
 case round =>
  obtain ⟨i,ys,hi,rfl,rfl,HY,hown,hBw⟩:=hrel
  have HBw:Hid (Below w.heap.size w wr):=hBw
  have HOw:Hid (wr.ownsRow w.heap.size 27 1 u5 ys.length (cellsP ys)):=hown
  have HYL:Hid (ys.length=i*M):=by
   show _=_
   rw [←lP_len,HY.out.1,longL_len,HM.out,List.length_take,lP_len,HN.out,Nat.min_eq_left hi]
  by_cases hlt:i<N
  ·have hii:(i:Int)<(N:Int):=by omega
   have hix:i<xs.length:=by rw [HN.out];exact hlt
   obtain ⟨hcap,h0 | ⟨b,o,rfl,hbz,hcell⟩,hhead⟩:=HP.out.later hBw
   ·rw [h0] at hix;simp at hix
   have ch:=hcell i hix
   have hhd:=hhead _ (pl_mem hix)
   have hh3:=H3.out _ (pl_mem hix)
   rw [HN.out] at hcap
   have HNx:Hid (longL ((lP xs).take (i+1)) X=longL ((lP xs).take i) X ++ X.map fun x=>(xs.getD i noP).p ++ [x]):=by
    show _=_
    rw [longL_take (by rw [lP_len];exact hix),lP_at]
   obtain ⟨h,hhe⟩:∃ h,(xs.getD i noP).p=h:=⟨_,rfl⟩
   rw [hhe] at ch hhd hh3 HNx
   generalize (xs.getD i noP).A=Ah at ch hhd
   generalize (xs.getD i noP).c=chh at ch hhd
   have HHd:Hid (HeadV wr Ah chh h):=hhd
   have HH3:Hid (h.length≤3):=hh3
   obtain ⟨nh,hnh⟩:∃ nh,h.length=nh:=⟨_,rfl⟩
   have HNH:Hid (h.length=nh):=hnh
   rw [hnh] at ch
   clear hcell hhead hhd hh3 hown hBw hhe hnh
   go_wp2_with fail
   go_loopg [5,18] M (fun gg s5 s18 wi => ∃ (j:Nat) (zs:List PL),j≤M∧gg=M-j∧s18=.int .i64 j∧Hid (lP zs=longL ((lP xs).take i) X ++ (X.take j).map (fun x=>h ++ [x])∧∀ y∈zs,y.p≠[]∧PlTy wi y.A y.c y.p)∧wi.ownsRow w.heap.size 27 1 s5 zs.length (cellsP zs)∧Below w.heap.size w wi∧HeadV wi Ah chh h)
   case atStart=>exact ⟨0,ys,Nat.zero_le _,rfl,rfl,(⟨by rw [HY.out.1];simp,HY.out.2⟩:_∧_),HOw.out,HBw.out,HHd.out⟩
   case round =>
    obtain ⟨wj,rfl⟩:∃ wj:World,wj=wr:=⟨_,rfl⟩
    obtain ⟨j,zs,hj,rfl,rfl,HZ,hown,hBj,hHj⟩:=hrel
    have HBj:Hid (Below w.heap.size w wj):=hBj
    have HHj:Hid (HeadV wj Ah chh h):=hHj
    have HO:Hid (wj.ownsRow w.heap.size 27 1 u5 zs.length (cellsP zs)):=hown
    have hZL:zs.length=i*M+j:=by
     have h1:zs.length=(lP zs).length:=(lP_len zs).symm
     rw [h1,HZ.out.1,List.length_append,longL_len,HM.out,List.length_take,lP_len,HN.out,Nat.min_eq_left (by omega),List.length_map,List.length_take,HM.out,Nat.min_eq_left hj]
    have hiM:i*M≤20736*12:=Nat.mul_le_mul (by omega) hX
    by_cases hjl:j<M
    ·have hji:(j:Int)<(M:Int):=by omega
     have hjX:j<X.length:=by rw [HM.out];exact hjl
     obtain ⟨hcM,h0 | ⟨bm,rfl,hbm,hcellm⟩⟩:=HI.out.later hBj
     ·rw [h0] at hjX;simp at hjX
     have cx:=hcellm j hjX
     rw [HM.out] at hcM
     have HNj:Hid ((X.take (j+1)).map (fun x=>h ++ [x])=(X.take j).map (fun x=>h ++ [x]) ++ [h ++ [X.getD j 0]]):=map_take hjX
     generalize X.getD j 0=x at cx HNj
     have hbw:=catW_below wj Ah nh chh x
     obtain ⟨k0,k1,k2⟩:=catW_1 wj Ah nh chh x
     have hcat:=concat_any (wj.heap.size+1) wj.heap.size Ah chh h x (catW wj Ah nh chh x) HH3.out (hHj.later hbw) (by rw [HNH.out];exact k0) k1 k2
     have HBc:Hid (Below wj.heap.size wj (catW wj Ah nh chh x)):=hbw
     rw [List.length_append,HNH.out,List.length_singleton] at hcat
     have HZL:Hid (zs.length=i*M+j∧i*M≤248832):=⟨hZL,by omega⟩
     unfold catW at hcat
     clear hcellm hjX hown hBj hHj hbw k0 k1 k2 hZL hiM
     go_wp2_with fail
     refine hcat.mono ?_
     rintro e w1 ⟨⟨A',c',rfl,hT⟩,hb1⟩
     have hB1:Below wj.heap.size wj w1:=onB HBc.out (by unfold catW;exact hb1)
     have HB1:Hid (Below w.heap.size w w1):=onB HBj.out hB1
     have HO1:Hid (w1.ownsRow w.heap.size 27 1 u5 zs.length (cellsP zs)):=own_later HO.out hB1
     have HZ1:Hid (∀ y∈zs,y.p≠[]∧PlTy w1 y.A y.c y.p):=fun y hy=>⟨(HZ.out.2 y hy).1,(HZ.out.2 y hy).2.later hB1⟩
     have HT1:Hid (PlTy w1 A' c' (h ++ [x])):=hT
     have HH1:Hid (HeadV w1 Ah chh h):=HHj.out.later hB1
     have hsz:=HB1.out.size
     clear hb1 hT hB1 hcat cx
     go_wp2_with (at_builtin;refine wpList_append_own _ rfl _ _ 53 rfl w.heap.size 27 i0 (.slice none 0 0) 1 24 Tryz.underlying53 hi0 hz0 hz1 hz2 rfl (by decide) _ _ _ rfl (HO1.out.alloc _) ⟨w1.heap.size,0,none⟩ 1 1 [.slice A' (nh+1) c'] rfl rfl one_cell ?qe3 ?qe4 ?qe5 ?qe6 ?_)
     case qe3=>intro u hu;simp at hu;subst hu;rfl
     case qe4=>have:=HZL.out;simp only [maxLen];omega
     case qe5=>have:=HZL.out;omega
     case qe6=>simp;omega
     intro v' w2 hown' hgrow hnil
     have HB2:Hid (Below w.heap.size w w2):=grown_own HB1.out HO1.out hgrow
     have hal:∀ {B:Option Addr} {d:Nat} {Y:List Int},PlTy w1 B d Y→PlTy w2 B d Y:=fun hY=>plty_row (hY.later (by go_grown)) (HO1.out.alloc _) hgrow
     have HZ2:Hid (lP (zs ++ [(⟨h ++ [x],A',c'⟩:PL)])=longL ((lP xs).take i) X ++ (X.take (j+1)).map (fun x=>h ++ [x])∧∀ y∈zs ++ [(⟨h ++ [x],A',c'⟩:PL)],y.p≠[]∧PlTy w2 y.A y.c y.p):=by
      refine ⟨by rw [lP_append,HZ.out.1,HNj.out,List.append_assoc];rfl,fun y hy=>?_⟩
      rcases List.mem_append.1 hy with hy | hy
      ·exact ⟨(HZ1.out y hy).1,hal (HZ1.out y hy).2⟩
      ·rw [List.mem_singleton.1 hy]
       exact ⟨by simp,hal HT1.out⟩
     have HO2:Hid (w2.ownsRow w.heap.size 27 1 v' (zs ++ [(⟨h ++ [x],A',c'⟩:PL)]).length (cellsP (zs ++ [(⟨h ++ [x],A',c'⟩:PL)]))):=by
      show World.ownsRow ..
      rw [cellsP_append,List.length_append]
      have e:cellsP [(⟨h ++ [x],A',c'⟩:PL)]=[.slice A' (nh+1) c']:=by simp [cellsP,HNH.out]
      rw [e]
      exact hown'
     have HH2:Hid (HeadV w2 Ah chh h):=by
      rcases HH1.out with hh | ⟨h1,hh⟩
      ·exact Or.inl hh
      ·exact Or.inr ⟨h1,hal hh⟩
     clear hown' hgrow hnil hal
     go_wp2_with fail
     go_roundg (M-(j+1))
     case measure=>omega
     case rel=>exact ⟨j+1,_,by omega,rfl,by go_num,HZ2,HO2.out,HB2.out,HH2.out⟩
    ·have hje:j=M:=by omega
     subst hje
     have HY2:Hid (lP zs=longL ((lP xs).take (i+1)) X∧∀ y∈zs,y.p≠[]∧PlTy wj y.A y.c y.p):=by
      refine ⟨?_,HZ.out.2⟩
      have e:X.take j=X:=List.take_of_length_le (by rw [HM.out];exact Nat.le_refl _)
      rw [HZ.out.1,HNx.out,e]
     clear hBj hHj hown hZL hiM
     go_wp2_with fail
     go_roundg (N-(i+1))
     case measure=>omega
     case rel=>exact ⟨i+1,zs,by omega,rfl,by go_num,HY2,HO.out,HBj.out⟩
  ·have hie:i=N:=by omega
   subst hie
   have HFin:Hid (lP ys=longL (lP xs) X):=by show _=_;rw [HY.out.1,List.take_of_length_le (by rw [lP_len,HN.out];exact Nat.le_refl _)]
   clear hown hBw
   go_wp2_with fail
   go_ret
   obtain ⟨A',c',h1,h2⟩:=pls_own HOw.out HY.out.2
   exact ⟨⟨A',c',ys,by rw [←h1];rfl,h2,HFin.out⟩,HBw.out⟩
set_option maxHeartbeats 8000000 in
theorem rlfs_any (A0:Option Addr) (cap n:Nat) (D:Nat→Dm) (A:Nat→Option Addr) (C:Nat→Nat) (Ap:Option Addr) (cp:Nat) (p:List Int) (w:World) (hp:InO D n p) (hM:DimsV w A0 cap n D A C) (hP:PlAt w Ap cp p) :
  Calls Tryz.prog 25 #[.agg #[.slice A0 n cap],.slice Ap p.length cp] w fun e w'=>(∃ A' c' ys,e=.returned (.tuple #[.slice A' ys.length c',.nilIface])∧PlsV w' A' c' ys∧lP ys=lfTo D p n)∧Below w.heap.size w w':=by
 obtain ⟨hn1,hn4,-,hd⟩:=allErr_some hp.right
 have hB0:=ownOut_below w A0 n cap 25
 have h:=rls_any A0 cap n D A C Ap cp p (ownOut w A0 n cap 25) hp (hM.later hB0) (hP.later hB0)
 have HB0:Hid (Below w.heap.size w (ownOut w A0 n cap 25)):=hB0
 have hn':(n:Int)≤4:=by omega
 have HD:Hid (∀ i,i<n→1≤(D i).n∧(D i).n≤12):=hd
 generalize p.length=np at h
 clear hM hP hB0 hp hd
 go_enter Tryz.func25,Tryz.ntmps25
 go_wp2_with fail
 refine h.mono ?_
 rintro e w1 ⟨⟨g,rfl,hS⟩,hb1⟩
 have HB1:Hid (Below w.heap.size w w1):=onB HB0.out hb1
 obtain ⟨v1,hv1⟩:∃ v,w1.alloc (.cells #[.slice none 0 0] 27)=v:=⟨_,rfl⟩
 have hBv:Below w1.heap.size w1 v1:=by rw [←hv1];go_grown
 have HBv:Hid (Below w.heap.size w v1):=onB HB1.out hBv
 have HSv:Hid (SlB v1 g n n (lfs D p)):=hS.later hBv
 have HPv:Hid (PlsV v1 (some ⟨w1.heap.size,0,none⟩) 1 [noP]):=by
  have hc:v1.heap[w1.heap.size]?=some (.cells #[.slice none 0 0] 27 (0,0)):=by rw [←hv1];exact heap_alloc_new ..
  refine ⟨Nat.le_refl _,Or.inr ⟨w1.heap.size,0,rfl,(Array.getElem?_eq_some_iff.1 hc).1,fun k hk=>?_⟩,fun x hx=>?_⟩
  ·have hk0:k=0:=by simpa using hk
   subst hk0
   rw [Lib.cell_of_heap hc]
   rfl
  ·rw [List.mem_singleton.1 hx]
   exact Or.inl ⟨rfl,rfl,rfl⟩
 clear hb1 h hS hBv
 go_wp2_with fail
 clear hv1
 go_loopg [8,23] n (fun gg s8 s23 wr => ∃ (k:Nat) (Ac:Option Addr) (cc:Nat) (xs:List PL),k≤n∧gg=n-k∧s23=.int .i64 k∧s8=.slice Ac xs.length cc∧Hid (PlsV wr Ac cc xs∧lP xs=lfTo D p k)∧Below v1.heap.size v1 wr)
 case atStart=>exact ⟨0,some ⟨w1.heap.size,0,none⟩,1,[noP],Nat.zero_le _,rfl,rfl,rfl,(⟨HPv.out,rfl⟩:_∧_),Below.refl _ _⟩
 case round =>
  obtain ⟨k,Ac,cc,xs,hk,rfl,rfl,rfl,HX,hBw⟩:=hrel
  have HBw:Hid (Below v1.heap.size v1 wr):=hBw
  by_cases hlt:k<n
  ·have hki:(k:Int)<(n:Int):=by omega
   obtain ⟨Al,cl,hcl,hIl⟩:=(HSv.out.later hBw).get hlt
   have hlen:xs.length≤20736:=by rw [←lP_len,HX.out.2];exact Nat.le_trans (lfTo_len p k) (prod_small (fun j hj=>(HD.out j (by omega)).2) (by omega))
   have hl3:∀ x∈xs,x.p.length≤3:=fun x hx=>by
    have:x.p∈lfTo D p k:=by rw [←HX.out.2];exact List.mem_map.2 ⟨x,hx,rfl⟩
    rw [lfTo_each p k _ this]
    omega
   have hlg:=longer_any Ac cc xs Al cl (lfs D p k) wr hlen (Nat.le_trans (lfs_len D p k) (HD.out k hlt).2) hl3 HX.out.1 hIl
   have HNx:Hid (longL (lP xs) (lfs D p k)=lfTo D p (k+1)):=by show _=_;rw [HX.out.2];rfl
   generalize (lfs D p k).length=nl at hcl hlg
   generalize xs.length=N at hlg
   clear hIl hlen hl3 hBw
   go_wp2_with fail
   refine hlg.mono ?_
   rintro e w2 ⟨⟨A2,c2,ys,rfl,hP2,hl2⟩,hb2⟩
   have HX2:Hid (PlsV w2 A2 c2 ys∧lP ys=lfTo D p (k+1)):=⟨hP2,by rw [hl2,HNx.out]⟩
   have HB2:Hid (Below v1.heap.size v1 w2):=onB HBw.out hb2
   clear hP2 hl2 hb2 hlg
   go_wp2_with fail
   go_roundg (n-(k+1))
   case measure=>omega
   case rel=>exact ⟨k+1,A2,c2,ys,by omega,rfl,by go_num,rfl,HX2,HB2.out⟩
  ·have hke:k=n:=by omega
   subst hke
   clear hBw
   go_wp2_with fail
   go_ret2
   exact ⟨⟨Ac,cc,xs,rfl,HX.out.1,HX.out.2⟩,onB HBv.out HBw.out⟩
theorem rlfs_bad (A0:Option Addr) (cap n:Nat) (D:Nat→Dm) (A:Nat→Option Addr) (C:Nat→Nat) (Ap:Option Addr) (cp:Nat) (p:List Int) (w:World) (hp:placeErr D n p≠0) (hM:DimsV w A0 cap n D A C) (hP:PlAt w Ap cp p) :
  Calls Tryz.prog 25 #[.agg #[.slice A0 n cap],.slice Ap p.length cp] w fun e w'=>e=.returned (.tuple #[.slice none 0 0,.iface 46 (.int .i64 (placeErr D n p))])∧Below w.heap.size w w':=by
 have hB0:=ownOut_below w A0 n cap 25
 have h:=rls_bad A0 cap n D A C Ap cp p (ownOut w A0 n cap 25) hp (hM.later hB0) (hP.later hB0)
 have HB0:Hid (Below w.heap.size w (ownOut w A0 n cap 25)):=hB0
 generalize p.length=np at h
 generalize placeErr D n p=c at h
 clear hM hP hB0 hp
 go_enter Tryz.func25,Tryz.ntmps25
 go_wp2_with fail
 refine h.mono ?_
 rintro e w1 ⟨rfl,hb1⟩
 go_wp2_with fail
 go_ret2
 exact ⟨rfl,onB HB0.out hb1⟩
end Go.Proofs.YtenlladggdcfnaaGreatDoor
namespace Go.Proofs.YtenlladggdcfnaaGreatDoor
open Go.ChangeShapes Go.WideShapes Go.ChangeAt Go.RowKit
set_option maxRecDepth 20000
set_option maxHeartbeats 2000000 in
theorem rless_any (A B:Option Addr) (ca cb:Nat) (a b:List Int) (w:World) (ha:a.length≤4) (hb:b.length≤4) (hA:PlAt w A ca a) (hB:PlAt w B cb b):Calls Tryz.prog 62 #[.slice A a.length ca,.slice B b.length cb] w fun e w'=>e=.returned (.bool (lessL a b))∧Below w.heap.size w w':=by
 have HA:Hid (PlAt w A ca a):=hA
 have HB:Hid (PlAt w B cb b):=hB
 have HN:Hid (∀ k,k<a.length→k<b.length→lessL (a.drop k) (b.drop k)=if a.getD k 0=b.getD k 0 then lessL (a.drop (k+1)) (b.drop (k+1)) else decide (a.getD k 0<b.getD k 0)):=fun k h1 h2=>lessL_in h1 h2
 have HL:Hid (∀ k,b.length≤k→lessL (a.drop k) (b.drop k)=false):=fun k h2=>lessL_long h2
 have HS:Hid (∀ k,a.length≤k→k<b.length→lessL (a.drop k) (b.drop k)=true):=fun k h1 h2=>lessL_short h1 h2
 obtain ⟨na,hna⟩:∃ na,a.length=na:=⟨_,rfl⟩
 obtain ⟨nb,hnb⟩:∃ nb,b.length=nb:=⟨_,rfl⟩
 have HNA:Hid (a.length=na):=hna
 have HNB:Hid (b.length=nb):=hnb
 rw [hna] at HN HS ha
 rw [hnb] at HN HL HS hb
 rw [hna,hnb]
 have ha':(na:Int)≤4:=by omega
 have hb':(nb:Int)≤4:=by omega
 clear hA hB hna hnb
 go_enter Tryz.func62,Tryz.ntmps62
 go_wp2_with fail
 go_loopg [5] na (fun g s5 wr => ∃ (k:Nat),k≤na∧k≤nb∧g=na-k∧s5=.int .i64 k∧Hid (lessL (a.drop k) (b.drop k)=lessL a b)∧Below w.heap.size w wr)
 case atStart=>exact ⟨0,Nat.zero_le _,Nat.zero_le _,rfl,rfl,(rfl:lessL (a.drop 0) (b.drop 0)=lessL a b),Below.refl _ _⟩
 case round =>
  obtain ⟨k,hk,hk2,rfl,rfl,HF,hBw⟩:=hrel
  have HBw:Hid (Below w.heap.size w wr):=hBw
  by_cases hlt:k<na
  ·have hki:(k:Int)<(na:Int):=by omega
   by_cases hlb:k<nb
   ·obtain ⟨hc,h0 | ⟨g1,o1,rfl,hbw,hcell⟩⟩:=HA.out.later hBw
    ·have:=HNA.out;rw [h0] at this;simp at this;omega
    obtain ⟨hc',h0 | ⟨g2,o2,rfl,hbw2,hcell2⟩⟩:=HB.out.later hBw
    ·have:=HNB.out;rw [h0] at this;simp at this;omega
    have x1:=hcell k (by rw [HNA.out];exact hlt)
    have x2:=hcell2 k (by rw [HNB.out];exact hlb)
    have hkb:(k:Int)<(nb:Int):=by omega
    have hst:=HN.out k hlt hlb
    generalize a.getD k 0=x at x1 hst
    generalize b.getD k 0=y at x2 hst
    clear hcell hcell2 hBw
    by_cases hxy:x=y
    ·have HR:Hid (lessL (a.drop (k+1)) (b.drop (k+1))=lessL a b):=by show _=_;rw [←HF.out,hst,if_pos hxy]
     subst hxy
     clear hst
     go_wp2_with fail
     go_quiet (fail)
     go_wp2_with fail
     go_roundg (na-(k+1))
     case measure=>omega
     case rel=>exact ⟨k+1,by omega,by omega,rfl,by go_num,HR,below_drewN HBw.out _⟩
    ·have HR:Hid (lessL a b=decide (x<y)):=by show _=_;rw [←HF.out,hst,if_neg hxy]
     clear hst
     go_wp2_with fail
     go_quiet (fail)
     go_wp2_with fail
     go_quiet (fail)
     go_wp2_with fail
     go_ret
     rw [HR.out]
     exact ⟨rfl,below_drewN (below_drewN HBw.out _) _⟩
   ·have HR:Hid (lessL a b=false):=by show _=_;rw [←HF.out,HL.out k (by omega)]
    have hkb:(nb:Int)≤(k:Int):=by omega
    have hnn:decide ((na:Int)<(nb:Int))=false:=decide_eq_false (by omega)
    have hnn':decide (na<nb)=false:=decide_eq_false (by omega)
    clear hBw
    go_wp2_with fail
    go_ret
    rw [HR.out]
    exact ⟨rfl,HBw.out⟩
  ·have hke:k=na:=by omega
   subst hke
   by_cases hlb:k<nb
   ·have HR:Hid (lessL a b=true):=by show _=_;rw [←HF.out,HS.out k (Nat.le_refl _) hlb]
    have hkb:(k:Int)<(nb:Int):=by omega
    clear hBw
    go_wp2_with fail
    go_ret
    rw [HR.out]
    exact ⟨rfl,HBw.out⟩
   ·have HR:Hid (lessL a b=false):=by show _=_;rw [←HF.out,HL.out k (by omega)]
    have hkb:(nb:Int)≤(k:Int):=by omega
    clear hBw
    go_wp2_with fail
    go_ret
    rw [HR.out]
    exact ⟨rfl,HBw.out⟩
set_option maxHeartbeats 4000000 in
theorem rfind_any (A:Option Addr) (cap:Nat) (xs:List EnL) (Ap:Option Addr) (cp:Nat) (p:List Int) (w:World) (hn:xs.length≤3000) (hE:EnsV w A cap xs) (hS:Short xs p) (hP:PlAt w Ap cp p) :
  Calls Tryz.prog 42 #[.slice A xs.length cap,.slice Ap p.length cp] w fun e w'=>e=.returned (.tuple #[.int .i64 (cntE (lE xs) p:Nat),.bool (hasE (lE xs) p)])∧Below w.heap.size w w':=by
 have HE:Hid (EnsV w A cap xs):=hE
 have HLs:Hid (∀ k w',k<xs.length→Below w.heap.size w w'→Calls Tryz.prog 62 #[.slice (xs.getD k noL).A (xs.getD k noL).e.pl.length (xs.getD k noL).c,.slice Ap p.length cp] w' fun e w''=>e=.returned (.bool (lessL (xs.getD k noL).e.pl p))∧Below w'.heap.size w' w''):=fun k w' hk hw'=>by
  obtain ⟨-,-,h0 | ⟨b,o,h0,hA⟩⟩:=hE.later hw'
  ·rw [h0] at hk;simp at hk
  ·exact rless_any _ _ _ _ _ _ w' (hS.1 k hk) hS.2 (hA.pl hk) (hP.later hw')
 have HLb:Hid (∀ k w',k<xs.length→Below w.heap.size w w'→Calls Tryz.prog 62 #[.slice Ap p.length cp,.slice (xs.getD k noL).A (xs.getD k noL).e.pl.length (xs.getD k noL).c] w' fun e w''=>e=.returned (.bool (lessL p (xs.getD k noL).e.pl))∧Below w'.heap.size w' w''):=fun k w' hk hw'=>by
  obtain ⟨-,-,h0 | ⟨b,o,h0,hA⟩⟩:=hE.later hw'
  ·rw [h0] at hk;simp at hk
  ·exact rless_any _ _ _ _ _ _ w' hS.2 (hS.1 k hk) (hP.later hw') (hA.pl hk)
 have HC:Hid (∀ i,i≤xs.length→(∀ t,t<i→lessL (xs.getD t noL).e.pl p=true)→(i<xs.length→lessL (xs.getD i noL).e.pl p=false)→cntE (lE xs) p=i):=fun i hi h1 h2=>cnt_at _ _ i (by rw [lE_len];exact hi) (fun t ht=>by rw [lE_at];exact h1 t ht) (fun h3=>by rw [lE_len] at h3;rw [lE_at];exact h2 h3)
 have HH:Hid (∀ i,cntE (lE xs) p=i→i<xs.length→hasE (lE xs) p = !lessL p (xs.getD i noL).e.pl):=fun i h1 h2=>by rw [←lE_at];exact (has_in h1 (by rw [lE_len];exact h2)).1
 have HH2:Hid (∀ i,cntE (lE xs) p=i→xs.length≤i→hasE (lE xs) p=false):=fun i h1 h2=>(has_out h1 (by rw [lE_len];exact h2)).1
 obtain ⟨n,hnn⟩:∃ n,xs.length=n:=⟨_,rfl⟩
 obtain ⟨np,hnp⟩:∃ np,p.length=np:=⟨_,rfl⟩
 have HN:Hid (xs.length=n):=hnn
 rw [hnn] at hn HLs HLb HC HH HH2 ⊢
 rw [hnp] at HLs HLb ⊢
 generalize cntE (lE xs) p=cnt at HC HH HH2
 generalize hasE (lE xs) p=has at HH HH2
 have hn':(n:Int)≤3000:=by omega
 clear hE hS hP hnn hnp
 go_enter Tryz.func42,Tryz.ntmps42
 go_wp2_with fail
 go_loopg [6] n (fun g s6 wr => ∃ (k:Nat),k≤n∧g=n-k∧s6=.int .i64 k∧Hid (∀ t,t<k→lessL (xs.getD t noL).e.pl p=true)∧Below w.heap.size w wr)
 case atStart=>exact ⟨0,Nat.zero_le _,rfl,rfl,fun t ht=>absurd ht (Nat.not_lt_zero _),Below.refl _ _⟩
 case round =>
  obtain ⟨k,hk,rfl,rfl,HLt,hBw⟩:=hrel
  have HBw:Hid (Below w.heap.size w wr):=hBw
  by_cases hlt:k<n
  ·obtain ⟨-,-,h0 | ⟨b,o,rfl,hA⟩⟩:=HE.out.later hBw
   ·have:=HN.out;rw [h0] at this;simp at this;omega
   obtain ⟨c1,-⟩:=hA.at (k:=k) (by rw [HN.out];exact hlt)
   have h1:=HLs.out k wr hlt hBw
   have HLk:Hid (∀ w',Below w.heap.size w w'→Calls Tryz.prog 62 #[.slice Ap np cp,.slice (xs.getD k noL).A (xs.getD k noL).e.pl.length (xs.getD k noL).c] w' fun e w''=>e=.returned (.bool (lessL p (xs.getD k noL).e.pl))∧Below w'.heap.size w' w''):=fun w' hw'=>HLb.out k w' hlt hw'
   have hki:(k:Int)<(n:Int):=by omega
   have hbb:=hA.1
   cases hl:lessL (xs.getD k noL).e.pl p
   ·have HCN:Hid (cnt=k):=HC.out k hk HLt.out (fun _=>hl)
    have HHI:Hid (has = !lessL p (xs.getD k noL).e.pl):=HH.out k HCN.out hlt
    rw [hl] at h1
    generalize lessL p (xs.getD k noL).e.pl=bk at HLk HHI
    generalize (xs.getD k noL).A=A1 at c1 h1 HLk
    generalize (xs.getD k noL).c=k1 at c1 h1 HLk
    generalize (xs.getD k noL).e.pl.length=m1 at c1 h1 HLk
    have hne:((k:Int) == (n:Int))=false:=by simp;omega
    clear hl hA hBw
    go_wp2_with fail
    refine h1.mono ?_
    rintro e w1 ⟨rfl,hb1⟩
    have hB1:Below w.heap.size w w1:=onB HBw.out hb1
    have HB1:Hid (Below w.heap.size w w1):=hB1
    have d1:w1.cell? ⟨b,o+k*2,none⟩=some (.slice A1 m1 k1):=(hb1.cell (p:=⟨b,o+k*2,none⟩) hbb).trans c1
    have h2:=HLk.out w1 hB1
    clear hb1 h1 c1 hB1
    go_wp2_with fail
    refine h2.mono ?_
    rintro e w2 ⟨rfl,hb2⟩
    have HB2:Hid (Below w.heap.size w w2):=onB HB1.out hb2
    clear hb2 h2 d1
    go_wp2_with fail
    go_ret2
    rw [HCN.out,HHI.out]
    exact ⟨rfl,HB2.out⟩
   ·have HT:Hid (∀ t,t<k+1→lessL (xs.getD t noL).e.pl p=true):=fun t ht=>by
     rcases Nat.lt_succ_iff_lt_or_eq.1 ht with h2 | rfl
     ·exact HLt.out t h2
     ·exact hl
    rw [hl] at h1
    generalize (xs.getD k noL).A=A1 at c1 h1
    generalize (xs.getD k noL).c=k1 at c1 h1
    generalize (xs.getD k noL).e.pl.length=m1 at c1 h1
    clear hl hA hBw HLk
    go_wp2_with fail
    refine h1.mono ?_
    rintro e w1 ⟨rfl,hb1⟩
    have HB1:Hid (Below w.heap.size w w1):=onB HBw.out hb1
    clear hb1 h1 c1
    go_wp2_with fail
    go_roundg (n-(k+1))
    case measure=>omega
    case rel=>exact ⟨k+1,by omega,rfl,by go_num,HT,HB1.out⟩
  ·have hke:k=n:=by omega
   subst hke
   have HCN:Hid (cnt=k):=HC.out k hk HLt.out (fun h=>absurd h (Nat.lt_irrefl _))
   have HHI:Hid (has=false):=HH2.out k HCN.out (Nat.le_refl _)
   go_wp2_with fail
   go_ret2
   rw [HCN.out,HHI.out]
   exact ⟨rfl,hBw⟩
theorem in_cons {i x:Int} {t:List Int} (h:x≠i):inB (x :: t) i=inB t i:=by
 unfold inB;rw [decide_eq_decide,List.mem_cons]
 exact ⟨fun h1=>h1.resolve_left fun e=>h e.symm,Or.inr⟩
theorem in_head {i:Int} {t:List Int}:inB (i :: t) i=true:=by simp [inB]
set_option maxHeartbeats 2000000 in
theorem rweight_any (d:Dm) (b o cap i j:Nat) (w:World) (hn:d.n≤12) (hj:j<d.n) (ht:Tr d.mem d.n) (hs:Sg d.mem d.n) (hM:MemsAt w b o d.n d.mem):Calls Tryz.prog 41 #[.agg #[.string d.name,.int .i64 d.solve,.slice (some ⟨b,o,none⟩) d.n cap],.int .i64 i,.int .i64 j] w fun e w'=>e=.returned (.tuple #[.int .i64 (weightOf d.mem i j),.bool (inB (pathOf d.mem j) i)])∧Below w.heap.size w w':=by
 have hS:=ownDim_size w d (some ⟨b,o,none⟩) cap 81
 have hB0:=ownDim_below w d (some ⟨b,o,none⟩) cap 81
 have hA:=(ownDim_at w d (some ⟨b,o,none⟩) cap 81).2.2
 obtain ⟨W,hW⟩:∃ W,W=ownDim w d (some ⟨b,o,none⟩) cap 81:=⟨_,rfl⟩
 rw [←hW] at hS hB0 hA
 have HW:Hid (W=ownDim w d (some ⟨b,o,none⟩) cap 81):=hW
 have HB0:Hid (Below w.heap.size w W):=hB0
 have HM:Hid (MemsAt W b o d.n d.mem):=hM.later hB0
 have HA:Hid (W.cell? ⟨w.heap.size,2,none⟩=some (.slice (some ⟨b,o,none⟩) d.n cap)):=hA
 have hsz:w.heap.size<W.heap.size:=by omega
 have hn':(d.n:Int)≤12:=by omega
 have HT:Hid (Tr d.mem d.n):=ht
 have HS:Hid (Sg d.mem d.n):=hs
 obtain ⟨wv,hwv⟩:∃ x,weightOf d.mem i j=x:=⟨_,rfl⟩
 obtain ⟨wi,hwi⟩:∃ x,inB (pathOf d.mem j) i=x:=⟨_,rfl⟩
 have HV:Hid (wgt d.mem i (pathOf d.mem j) 1=wv):=hwv
 have HI:Hid (inB (pathOf d.mem j) i=wi):=hwi
 rw [hwv,hwi]
 clear hM hW hB0 hA hS ht hs hwv hwi
 go_enter Tryz.func41,Tryz.ntmps41
 go_wp2_with fail
 go_loopg [2,8] (j+1) (fun g s2 s8 wr => ∃ (x a:Int),-1≤x∧x<d.n∧g=(x+1).toNat∧s2=.int .i64 x∧s8=.int .i64 a∧(-1≤a∧a≤1)∧wgt d.mem i (pathOf d.mem x) a=wv∧inB (pathOf d.mem x) i=wi∧wr=W)
 case atStart=>exact ⟨j,1,by omega,by omega,by omega,rfl,rfl,by omega,HV.out,HI.out,HW.out.symm⟩
 case round =>
  obtain ⟨x,a,hx1,hx2,rfl,rfl,rfl,ha,hf1,hf2,rfl⟩:=hrel
  have HF1:Hid (wgt d.mem i (pathOf d.mem x) a=wv):=hf1
  have HF2:Hid (inB (pathOf d.mem x) i=wi):=hf2
  have hA:=HA.out
  clear hf1 hf2
  by_cases h0:0≤x
  ·obtain ⟨m,rfl⟩:∃ m:Nat,x=m:=⟨x.toNat,by omega⟩
   have hmn:m<d.n:=by omega
   have HC:Hid (pathOf d.mem m=(m:Int) :: pathOf d.mem (d.mem m).parent):=pathOf_cons HT.out hmn
   by_cases hq:m=i
   ·subst hq
    have HR:Hid (a=wv∧true=wi):=⟨by rw [←HF1.out,HC.out,wgt_hit],by rw [←HF2.out,HC.out,in_head]⟩
    go_wp2_with fail
    go_ret2
    rw [←HR.out.1,←HR.out.2]
    exact ⟨rfl,HB0.out⟩
   ·have hq':((m:Int) == (i:Int))=false:=beq_eq_false_iff_ne.2 (by omega)
    obtain ⟨-,p1,p2,-⟩:=HM.out.2 m hmn
    have hsm:=HS.out m hmn
    have htm:=HT.out m hmn
    have hmul:=small_mul ha hsm
    have HMul:Hid (-1≤a*(d.mem m).sign∧a*(d.mem m).sign≤1):=hmul
    have HR1:Hid (wgt d.mem i (pathOf d.mem (d.mem m).parent) (a*(d.mem m).sign)=wv):=by show _=_;rw [←HF1.out,HC.out,wgt_miss (by omega)];rfl
    have HR2:Hid (inB (pathOf d.mem (d.mem m).parent) i=wi):=by show _=_;rw [←HF2.out,HC.out,in_cons (by omega)]
    have hmi:(m:Int)<(d.n:Int):=by omega
    have HTm:Hid (-1≤(d.mem m).parent∧(d.mem m).parent<(m:Int)):=htm
    clear hq htm
    go_wp2_with fail
    go_roundg ((d.mem m).parent+1).toNat
    case measure=>have:=HTm.out;omega
    case rel=>exact ⟨(d.mem m).parent,a*(d.mem m).sign,HTm.out.1,by have:=HTm.out;omega,rfl,rfl,by go_num,HMul.out,HR1.out,HR2.out,rfl⟩
  ·have hk:x<0:=by omega
   have hq':(x == (i:Int))=false:=beq_eq_false_iff_ne.2 (by omega)
   have HR:Hid (0=wv∧false=wi):=⟨by rw [←HF1.out,pathOf_neg hk];rfl,by rw [←HF2.out,pathOf_neg hk];rfl⟩
   go_wp2_with fail
   go_ret2
   rw [←HR.out.1,←HR.out.2]
   exact ⟨rfl,HB0.out⟩
def Six (W:World) (q b o k b1 o1 b2 o2:Nat) (u v0 v1 v2 x y:Value):Prop :=
 (q<W.heap.size∧b<W.heap.size∧b1<W.heap.size∧b2<W.heap.size)∧W.cell? ⟨q,0,none⟩=some u∧W.cell? ⟨b,o+k*3,none⟩=some v0∧W.cell? ⟨b,o+k*3+1,none⟩=some v1∧W.cell? ⟨b,o+k*3+2,none⟩=some v2∧W.cell? ⟨b1,o1+k,none⟩=some x∧W.cell? ⟨b2,o2+k,none⟩=some y
theorem keep6 {W w':World} {q b o k b1 o1 b2 o2:Nat} {u v0 v1 v2 x y:Value} (h:Six W q b o k b1 o1 b2 o2 u v0 v1 v2 x y) (hB:Below W.heap.size W w'):Below W.heap.size W w'∧w'.cell? ⟨q,0,none⟩=some u∧w'.cell? ⟨b,o+k*3,none⟩=some v0∧w'.cell? ⟨b,o+k*3+1,none⟩=some v1∧w'.cell? ⟨b,o+k*3+2,none⟩=some v2∧w'.cell? ⟨b1,o1+k,none⟩=some x∧w'.cell? ⟨b2,o2+k,none⟩=some y:=by
 obtain ⟨⟨h1,h2,h3,h4⟩,c0,c1,c2,c3,c4,c5⟩:=h
 exact ⟨hB,(hB.cell (p:=⟨q,0,none⟩) h1).trans c0,(hB.cell (p:=⟨b,o+k*3,none⟩) h2).trans c1,(hB.cell (p:=⟨b,o+k*3+1,none⟩) h2).trans c2,(hB.cell (p:=⟨b,o+k*3+2,none⟩) h2).trans c3,(hB.cell (p:=⟨b1,o1+k,none⟩) h3).trans c4,(hB.cell (p:=⟨b2,o2+k,none⟩) h4).trans c5⟩
set_option maxHeartbeats 8000000 in
theorem rpw_any (A0:Option Addr) (cap n:Nat) (D:Nat→Dm) (A:Nat→Option Addr) (C:Nat→Nat) (Ap:Option Addr) (cp:Nat) (p:List Int) (Aq:Option Addr) (cq:Nat) (q:List Int) (w:World) (hp:InO D n p) (hq:InO D n q) (hM:DimsV w A0 cap n D A C) (hP:PlAt w Ap cp p) (hQ:PlAt w Aq cq q) :
  Calls Tryz.prog 21 #[.agg #[.slice A0 n cap],.slice Ap p.length cp,.slice Aq q.length cq] w fun e w'=>e=.returned (.tuple #[.int .i64 (pwTo D p q n),.bool (inTo D p q n)])∧Below w.heap.size w w':=by
 obtain ⟨hn1,hn4,-,hd⟩:=allErr_some hp.right
 have hl:=hp.len
 have hl2:=hq.len
 obtain ⟨hcp,h0 | ⟨b1,o1,rfl,hb1,hc1⟩⟩:=hP
 ·rw [h0] at hl;simp at hl;omega
 obtain ⟨hcq,h0 | ⟨b2,o2,rfl,hb2,hc2⟩⟩:=hQ
 ·rw [h0] at hl2;simp at hl2;omega
 obtain ⟨hcap,h0 | ⟨b,o,rfl,hMs⟩⟩:=hM
 ·omega
 rw [hl] at hcp hc1 ⊢
 rw [hl2] at hcq hc2 ⊢
 have hB0:=ownOut_below w (some ⟨b,o,none⟩) n cap 25
 obtain ⟨W,hW⟩:∃ W,w.alloc (.cells #[.slice (some ⟨b,o,none⟩) n cap] 25)=W:=⟨_,rfl⟩
 have hWo:ownOut w (some ⟨b,o,none⟩) n cap 25=W:=hW
 rw [hWo] at hB0
 have cW:W.cell? ⟨w.heap.size,0,none⟩=some (.slice (some ⟨b,o,none⟩) n cap):=by rw [←hWo];exact ownOut_at ..
 have hzW:w.heap.size<W.heap.size:=by rw [←hWo,ownOut_size];omega
 have HB0:Hid (Below w.heap.size w W):=hB0
 have HMs:Hid (DimsAt W b o n D A C):=hMs.later hB0
 have HC1:Hid (∀ j,j<n→W.cell? ⟨b1,o1+j,none⟩=some (.int .i64 (p.getD j 0))):=fun j hj=>(hB0.cell (p:=⟨b1,o1+j,none⟩) hb1).trans (hc1 j hj)
 have HC2:Hid (∀ j,j<n→W.cell? ⟨b2,o2+j,none⟩=some (.int .i64 (q.getD j 0))):=fun j hj=>(hB0.cell (p:=⟨b2,o2+j,none⟩) hb2).trans (hc2 j hj)
 have hz1:b1<W.heap.size:=Nat.lt_of_lt_of_le hb1 hB0.size
 have hz2:b2<W.heap.size:=Nat.lt_of_lt_of_le hb2 hB0.size
 have HIp:Hid (InO D n p):=hp
 have HIq:Hid (InO D n q):=hq
 have hn':(n:Int)≤4:=by omega
 clear hWo hMs hc1 hc2 hb1 hb2 hB0 hp hq hl hl2
 go_enter Tryz.func21,Tryz.ntmps21
 go_wp2_with fail
 clear hW
 go_loopg [8,9] n (fun g s8 s9 wr => ∃ (k:Nat),k≤n∧g=n-k∧s9=.int .i64 k∧s8=.int .i64 (pwTo D p q k)∧Hid (inTo D p q k=true)∧Below W.heap.size W wr)
 case atStart=>exact ⟨0,Nat.zero_le _,rfl,rfl,rfl,(rfl:inTo D p q 0=true),Below.refl _ _⟩
 case round =>
  obtain ⟨k,hk,rfl,rfl,rfl,HIn,hBw⟩:=hrel
  have HBw:Hid (Below W.heap.size W wr):=hBw
  by_cases hlt:k<n
  ·have hki:(k:Int)<(n:Int):=by omega
   obtain ⟨d0,d1,d2,h4⟩:=(HMs.out.later hBw).2 k hlt
   have hdk:=(allErr_right HIp.out.right).2 k hlt
   obtain ⟨hdn1,hdn2⟩:=hd k hlt
   have hbr:=(HMs.out.later hBw).1
   obtain ⟨hcm,h0 | ⟨bm,om,hAk,hMm⟩⟩:=h4
   ·omega
   rw [hAk] at d2
   have e1:=(hBw.cell (p:=⟨b1,o1+k,none⟩) hz1).trans (HC1.out k hlt)
   have e2:=(hBw.cell (p:=⟨b2,o2+k,none⟩) hz2).trans (HC2.out k hlt)
   have cr:=(hBw.cell (p:=⟨w.heap.size,0,none⟩) hzW).trans cW
   obtain ⟨x,hx⟩:∃ x:Nat,p.getD k 0=x:=⟨(p.getD k 0).toNat,by have:=HIp.out.lo k hlt;omega⟩
   obtain ⟨y,hy⟩:∃ y:Nat,q.getD k 0=y:=⟨(q.getD k 0).toNat,by have:=HIq.out.lo k hlt;omega⟩
   have hyn:y<(D k).n:=by have:=HIq.out.hi k hlt;omega
   rw [hx] at e1
   rw [hy] at e2
   have HWt:Hid (∀ w',Below wr.heap.size wr w'→Calls Tryz.prog 41 #[.agg #[.string (D k).name,.int .i64 (D k).solve,.slice (some ⟨bm,om,none⟩) (D k).n (C k)],.int .i64 x,.int .i64 y] w' fun e w''=>e=.returned (.tuple #[.int .i64 (weightOf (D k).mem x y),.bool (inB (pathOf (D k).mem y) x)])∧Below w'.heap.size w' w''):=fun w' hw'=>rweight_any (D k) bm om (C k) x y w' hdn2 hyn (Tr.of hdk) (Sg.of hdk) (hMm.later hw')
   have HIn2:Hid (inTo D p q (k+1)=inB (pathOf (D k).mem y) x):=by show _=_;rw [inTo,HIn.out,hx,hy,Bool.true_and]
   have HPw2:Hid (pwTo D p q (k+1)=pwTo D p q k*weightOf (D k).mem x y):=by show _=_;rw [pwTo,hx,hy]
   have hsm:=pwTo_small HIq.out p (k+1) (by omega)
   rw [HPw2.out] at hsm
   have HOut:Hid (inTo D p q (k+1)=false→inTo D p q n=false∧pwTo D p q n=0):=fun h=>by
    have hi:∀ m,k+1≤m→inTo D p q m=false:=by
     intro m hm
     induction m with
     | zero=>omega
     | succ m ih =>
      by_cases h5:k+1=m+1
      ·rw [←h5];exact h
      ·rw [inTo,ih (by omega),Bool.false_and]
    have:=hi n (by omega)
    exact ⟨this,pwTo_out this⟩
   have HSix:Hid (Six wr w.heap.size b o k b1 o1 b2 o2 (.slice (some ⟨b,o,none⟩) n cap) (.string (D k).name) (.int .i64 (D k).solve) (.slice (some ⟨bm,om,none⟩) (D k).n (C k)) (.int .i64 x) (.int .i64 y)):=⟨⟨Nat.lt_of_lt_of_le hzW hBw.size,hbr,Nat.lt_of_lt_of_le hz1 hBw.size,Nat.lt_of_lt_of_le hz2 hBw.size⟩,cr,d0,d1,d2,e1,e2⟩
   generalize weightOf (D k).mem x y=wt at HWt HPw2 hsm
   generalize inB (pathOf (D k).mem y) x=tI at HWt HIn2
   generalize (D k).name=dn at HWt HSix
   generalize (D k).solve=ds at HWt HSix
   generalize (D k).n=dk at HWt HSix hdn1 hdn2 hyn
   obtain ⟨pk,hpk⟩:∃ v,pwTo D p q k=v:=⟨_,rfl⟩
   have HPK:Hid (pwTo D p q k=pk):=hpk
   rw [hpk] at hsm ⊢
   obtain ⟨hs1,hs2⟩:=hsm
   clear hBw hMm hx hy d0 d1 d2 e1 e2 cr hAk hdk hpk
   go_wp2_with fail
   go_cut [10,11] (fun s10 s11 wx=>s10=.int .i64 wt∧s11=.bool tI∧Below wr.heap.size wr wx)
   case first=>as_aux_lemma =>
    go_region_held3 (fun w'=>Below wr.heap.size wr w'∧w'.cell? ⟨w.heap.size,0,none⟩=some (.slice (some ⟨b,o,none⟩) n cap)∧w'.cell? ⟨b,o+k*3,none⟩=some (.string dn)∧w'.cell? ⟨b,o+k*3+1,none⟩=some (.int .i64 ds)∧w'.cell? ⟨b,o+k*3+2,none⟩=some (.slice (some ⟨bm,om,none⟩) dk (C k))∧w'.cell? ⟨b1,o1+k,none⟩=some (.int .i64 x)∧w'.cell? ⟨b2,o2+k,none⟩=some (.int .i64 y))
     ((refine keep6 HSix.out ?_;go_grown;done))
     (first | (go_at_call 41;refine (HWt.out _ (by go_grown)).mono ?_;rintro e w3 ⟨rfl,hb3⟩;have hN3:=onB (W0:=wr) (by go_grown) hb3;have hy3:=hN3.size;clear hb3))
    all_goals go_wp2_with fail
    all_goals go_meet
    all_goals exact ⟨rfl,rfl,by go_grown⟩
   case rest=>as_aux_lemma =>
   obtain ⟨rfl,rfl,hb⟩:=hcut
   obtain ⟨w2,rfl⟩:∃ w2:World,w2=wc:=⟨_,rfl⟩
   have HB2:Hid (Below W.heap.size W w2):=onB HBw.out hb
   clear hb HSix HWt
   cases tI
   ·obtain ⟨r1,r2⟩:=HOut.out HIn2.out
    have HR:Hid (inTo D p q n=false∧pwTo D p q n=0):=⟨r1,r2⟩
    clear r1 r2
    go_wp2_with fail
    go_ret2
    rw [HR.out.1,HR.out.2]
    exact ⟨rfl,onB HB0.out HB2.out⟩
   ·go_wp2_with fail
    go_roundg (n-(k+1))
    case measure=>omega
    case rel=>exact ⟨k+1,by omega,rfl,by go_num,by rw [HPw2.out,HPK.out],HIn2,HB2.out⟩
  ·have hke:k=n:=by omega
   subst hke
   have HR:Hid (inTo D p q k=true):=HIn
   clear hBw
   go_wp2_with fail
   go_ret2
   rw [HR.out]
   exact ⟨rfl,onB HB0.out HBw.out⟩
end Go.Proofs.YtenlladggdcfnaaGreatDoor
