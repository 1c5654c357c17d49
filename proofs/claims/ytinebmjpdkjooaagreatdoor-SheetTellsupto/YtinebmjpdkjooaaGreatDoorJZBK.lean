/-
  The entries of the cells' lines (package sheet's entries), in whatever memory.
-/
import Derived.Test.YtinebmjpdkjooaaGreatDoorJZBE
import Derived.Test.YtinebmjpdkjooaaGreatDoorJZBF
import Derived.Test.YtinebmjpdkjooaaGreatDoorJZBJ
namespace Go.Proofs.YtinebmjpdkjooaaGreatDoor
open Go Go.ChangeShapes Go.WideShapes Go.ChangeAt Go.RowKit
set_option maxRecDepth 20000
def badE (D:Nat→Dm) (n:Nat) (S:RdQ) (k:Nat):Bool:=decide (parseErr D n (S.pl.getD k noWd)≠0)
def ebad (D:Nat→Dm) (n:Nat) (S:RdQ):Int:=findFrom (badE D n S) S.pl.length 0
def enOf (D:Nat→Dm) (n:Nat) (S:RdQ) (k:Nat):En:=⟨parseL D n (S.pl.getD k noWd),S.num.getD k 0⟩
def esL (D:Nat→Dm) (n:Nat) (S:RdQ):List En:=(List.range S.pl.length).map (enOf D n S)
theorem esL_take {D:Nat→Dm} {n:Nat} {S:RdQ} {k:Nat} (hk:k<S.pl.length):(esL D n S).take (k+1)=(esL D n S).take k ++ [enOf D n S k]:=by
 unfold esL
 rw [List.take_add_one]
 congr 1
 simp [hk]
theorem plty_app {w w':World} {A:Option Addr} {c B n:Nat} {L:List Int} {v:Value} {xs:List Value} (h:PlTy w A c L) (hown:w.ownsRow B 51 2 v n xs) (hG:w.grownBy w' v.ownBlock):PlTy w' A c L:=by
 obtain ⟨h1,h2 | ⟨b,o,cs,fr',h2,h3,h4⟩⟩:=h
 ·exact ⟨h1,Or.inl h2⟩
 ·have hb:w'.heap[b]?=w.heap[b]?:=hG.block b (Array.getElem?_eq_some_iff.1 h3).1 fun e=>own_ne hown h3 ent_ne_int e.symm
  exact ⟨h1,Or.inr ⟨b,o,cs,fr',h2,hb.trans h3,fun j hj=>(World.cell?_of_block (a:=⟨b,o+j,none⟩) hb).trans (h4 j hj)⟩⟩
theorem ens_row {w:World} {B:Nat} {v:Value} {xs:List EnL} (h:w.ownsRow B 51 2 v xs.length (cellsE xs)) (hp:∀ x∈xs,PlTy w x.A x.c x.e.pl):∃ A c,v=.slice A xs.length c∧EnsV w A c xs:=by
 rcases h.2 with ⟨rfl,h0⟩ | ⟨g,cap,cur,rfl,hb,hg,h4,h5,h6,h7⟩
 ·have:xs=[]:=List.eq_nil_of_length_eq_zero h0
  subst this
  exact ⟨none,0,rfl,Nat.le_refl _,by omega,Or.inl rfl⟩
 ·refine ⟨_,cap,rfl,h4,by unfold maxLen at h5;omega,Or.inr ⟨g,0,rfl,(Array.getElem?_eq_some_iff.1 hg).1,fun j u hj=>?_,fun x hx=>(hp x hx).pl⟩⟩
  have hjl:j<xs.length*2:=by rw [←cellsE_len];exact (List.getElem?_eq_some_iff.1 hj).1
  rw [←h7,List.getElem?_take,if_pos hjl,Array.getElem?_toList] at hj
  rw [Nat.zero_add]
  simp [World.cell?,hg,hj]
theorem plty_set {w:World} {A:Option Addr} {c H j T:Nat} {L:List Int} {cs:Array Value} {fr:Nat×Nat} {v:Value} (h:PlTy w A c L) (hH:w.heap[H]?=some (.cells cs T fr)) (hT:T≠3):PlTy (w.setCell ⟨H,j,none⟩ v) A c L:=by
 obtain ⟨h1,h2 | ⟨b,o,cs',fr',h2,h3,h4⟩⟩:=h
 ·exact ⟨h1,Or.inl h2⟩
 ·have hne:b≠H:=fun e=>by
   rw [e,hH] at h3
   exact hT (Obj.cells.inj (Option.some.inj h3)).2.1
  have hb:=setCell_off w H j b v hne
  exact ⟨h1,Or.inr ⟨b,o,cs',fr',h2,hb.trans h3,fun j' hj=>(World.cell?_of_block (a:=⟨b,o+j',none⟩) hb).trans (h4 j' hj)⟩⟩
def EnA (D:Nat→Dm) (n:Nat) (S:RdQ) (w:World) (e:Ending) (w':World):Prop :=
 (∀ k:Nat,ebad D n S=k→e=.returned (.tuple #[.slice none 0 0,.int .i64 ((S.first+k:Nat):Int),.iface 65 (.int .i64 (parseErr D n (S.pl.getD k noWd)))])) ∧
 (ebad D n S = -1→∃ xs A c,e=.returned (.tuple #[.slice A xs.length c,.int .i64 0,.nilIface])∧lE xs=esL D n S∧w'.ownsRow w.heap.size 51 2 (.slice A xs.length c) xs.length (cellsE xs)∧∀ x∈xs,PlTy w' x.A x.c x.e.pl)∧Below w.heap.size w w'
set_option maxHeartbeats 16000000 in
theorem sentries_any (A0:Option Addr) (cap n:Nat) (D:Nat→Dm) (A:Nat→Option Addr) (C:Nat→Nat) (S:RdQ) (B:Nat) (vc:Value) (w:World) (hM:DimsV w A0 cap n D A C) (hW:w.ownsRow B 99 3 vc S.pl.length (cellsW S S.pl.length)) (hS:∀ s∈S.pl,s.size≤1048576) (hN:S.pl.length≤1048576) :
  Calls Tryz.prog 32 #[.agg #[.slice A0 n cap],vc] w fun e w'=>EnA D n S w e w':=by
 obtain ⟨Ac,cc,hvc⟩:=own_formK hW
 subst hvc
 have hB0:=ownOut_below w A0 n cap 24
 have hat:=ownOut_at w A0 n cap 24
 have hsz:=ownOut_size w A0 n cap 24
 obtain ⟨W,hW0⟩:∃ W,ownOut w A0 n cap 24=W:=⟨_,rfl⟩
 rw [hW0] at hB0 hat hsz
 unfold ownOut at hW0
 have HB0:=hid_of hB0
 have HM:=hid_of hM
 have HW:=hid_of hW
 have HS:Hid (∀ k,(S.pl.getD k noWd).size≤1048576):=fun k=>by
  by_cases hk:k<S.pl.length
  ·exact hS _ (by rw [List.getD_eq_getElem?_getD,List.getElem?_eq_getElem hk];exact List.getElem_mem hk)
  ·rw [List.getD_eq_getElem?_getD,List.getElem?_eq_none (by omega)];exact Nat.zero_le _
 obtain ⟨i0,hi0,hz0,hz1,hz2⟩:=info_parts Tryz.infoEntK
 obtain ⟨N,hNe⟩:∃ N,S.pl.length=N:=⟨_,rfl⟩
 have HNe:=hid_of hNe
 rw [hNe] at hN ⊢
 have HA:Hid (∀ w',Below W.heap.size W w'→w'.cell? ⟨w.heap.size,0,none⟩=some (.slice A0 n cap)):=fun w' h=>(h.cell (p:=⟨w.heap.size,0,none⟩) (by show w.heap.size<_;omega)).trans hat
 clear hM hW hS hB0 hat hNe
 go_enter Tryz.func32,Tryz.ntmps32
 go_wp2_with fail
 go_loopg [7,14] N (fun g s7 s14 wr => ∃ (k:Nat) (v:Value) (xs:List EnL),k≤N∧g=N-k∧s14=.int .i64 k∧s7=v∧Hid (xs.length=k)∧Hid (lE xs=(esL D n S).take k)∧Hid (wr.ownsRow W.heap.size 51 2 v k (cellsE xs))∧Hid (∀ x∈xs,PlTy wr x.A x.c x.e.pl)∧Hid (findFrom (badE D n S) (N-k) k=ebad D n S)∧Hid (Below W.heap.size W wr))
 case atStart=>exact ⟨0,_,[],Nat.zero_le _,rfl,rfl,rfl,hid_of rfl,hid_of rfl,hid_of (World.ownsRow_nil _ _ _ 2),hid_of (fun x hx=>by cases hx),hid_of (by unfold ebad;rw [HNe.out];rfl),hid_of (Below.refl _ _)⟩
 case round =>
  obtain ⟨k,v,xs,hk,rfl,rfl,rfl,HXl,HXe,HO,HPl,HF,HBr⟩:=hrel
  by_cases hlt:k<N
  ·have hki:(k:Int)<(N:Int):=by omega
   have hWr:=own_later HW.out (HB0.out.trans (HBr.out.mono (by omega)))
   obtain ⟨gc,ca,hvv,-,hgc⟩:=hWr.form (by rw [HNe.out];omega)
   have hAc:Ac=some ⟨gc,0,none⟩:=by injection hvv
   subst hAc
   have hcells:=cellsW_at S S.pl.length k (by rw [HNe.out];exact hlt)
   have c0:=(hWr.cellAt (k*3) (by rw [HNe.out];omega)).trans hcells.1
   have c1:=(hWr.cellAt (k*3+1) (by rw [HNe.out];omega)).trans hcells.2.1
   have c2:=(hWr.cellAt (k*3+2) (by rw [HNe.out];omega)).trans hcells.2.2
   have ha:=HA.out wr HBr.out
   obtain ⟨li,hli⟩:∃ li:Int,((S.first+k:Nat):Int)=li:=⟨_,rfl⟩
   obtain ⟨nu,hnu⟩:∃ nu,S.num.getD k 0=nu:=⟨_,rfl⟩
   obtain ⟨tx,htx⟩:∃ tx,S.pl.getD k noWd=tx:=⟨_,rfl⟩
   rw [hli] at c0
   rw [htx] at c1
   rw [hnu] at c2
   have HLi:=hid_of hli
   have HNu:=hid_of hnu
   have HTx:=hid_of htx
   obtain ⟨Y,hY⟩:∃ Y,wr.alloc (.cells #[.int .i64 li,.string tx,.int .i64 nu] 99)=Y:=⟨_,rfl⟩
   have hYb:Below wr.heap.size wr Y:=by rw [←hY];exact (Below.refl _ _).alloc (Nat.le_refl _) _
   have hYc:Y.heap[wr.heap.size]?=some (.cells #[.int .i64 li,.string tx,.int .i64 nu] 99 (0,0)):=by rw [←hY];exact heap_alloc_new ..
   have hYs:wr.heap.size<Y.heap.size:=(Array.getElem?_eq_some_iff.1 hYc).1
   have y0:Y.cell? ⟨wr.heap.size,0,none⟩=some (.int .i64 li):=(Lib.cell_of_heap hYc 0).trans rfl
   have y1:Y.cell? ⟨wr.heap.size,1,none⟩=some (.string tx):=(Lib.cell_of_heap hYc 1).trans rfl
   have y2:Y.cell? ⟨wr.heap.size,2,none⟩=some (.int .i64 nu):=(Lib.cell_of_heap hYc 2).trans rfl
   have yA:=HA.out Y (HBr.out.trans (hYb.mono HBr.out.size))
   have hp:=pparse_ty A0 cap n D A C tx Y (by have:=HS.out k;rw [htx] at this;omega) (HM.out.later (HB0.out.trans ((HBr.out.trans (hYb.mono HBr.out.size)).mono (by omega))))
   have HYb:=hid_of hYb
   have HYc:=hid_of hYc
   have hsw:W.heap.size≤wr.heap.size:=HBr.out.size
   clear hWr hcells hvv hYb hYc hli hnu htx hgc
   by_cases he:parseErr D n tx=0
   ·have HN2:Hid (findFrom (badE D n S) (N-(k+1)) (k+1)=ebad D n S):=by
     show _=_
     rw [←HF.out]
     obtain ⟨f,hf⟩:∃ f,N-k=f+1:=⟨N-k-1,by omega⟩
     rw [hf,findFrom_miss _ (show badE D n S k=false by unfold badE;rw [HTx.out,he];rfl),show N-(k+1)=f by omega]
    have HEn:Hid (enOf D n S k=⟨parseL D n tx,nu⟩):=by show _=_;unfold enOf;rw [HTx.out,HNu.out]
    rw [he,errV_zero] at hp
    generalize parseL D n tx=PL at hp HEn
    clear he
    go_wp2_with fail
    refine hp.mono ?_
    rintro e w2 ⟨⟨A',c',rfl,hpl⟩,hb2⟩
    have z2:=(hb2.cell (p:=⟨wr.heap.size,2,none⟩) hYs).trans y2
    have HB2:=hid_of (onB HYb.out hb2)
    have HO2:=hid_of (own_later HO.out HB2.out)
    have HP2:Hid (∀ x∈xs,PlTy w2 x.A x.c x.e.pl):=fun x hx=>(HPl.out x hx).later HB2.out
    have HPn:=hid_of hpl
    have hsw2:W.heap.size≤w2.heap.size:=Nat.le_trans hsw HB2.out.size
    obtain ⟨A1,c1,rfl⟩:=own_formK HO.out
    clear hb2 hp hpl
    go_wp2_with (at_builtin;refine wpList_append_own _ rfl _ _ 25 rfl W.heap.size 51 i0 (.agg #[.slice none 0 0,.int .i64 0]) 2 32 Tryz.underlying25 hi0 hz0 hz1 hz2 rfl (by decide) _ _ _ rfl (HO2.out.alloc _) ⟨w2.heap.size,0,none⟩ 1 1 [.slice A' PL.length c',.int .i64 nu] rfl rfl ?qe2 ?qe3 ?qe4 ?qe5 ?qe6 ?_)
    case qe2 =>
     intro j u hj
     rw [plain_addK,Lib.cell_of_heap (heap_alloc_new w2 (.cells #[.slice A' PL.length c',.int .i64 nu] 51))]
     simpa using hj
    case qe3=>intro u hu;simp at hu;rcases hu with rfl | rfl <;> rfl
    case qe4=>simp only [maxLen];omega
    case qe5=>omega
    case qe6=>simp;omega
    intro v' w8 hown' hgrow hnil
    have hO3:=HO2.out.alloc (.cells #[.slice A' PL.length c',.int .i64 nu] 51)
    have HP8:Hid (∀ x∈xs ++ [⟨⟨PL,nu⟩,A',c'⟩],PlTy w8 x.A x.c x.e.pl):=fun x hx=>by
     rcases List.mem_append.1 hx with hx | hx
     ·exact plty_app ((HP2.out x hx).later ((Below.refl _ _).alloc (Nat.le_refl _) _)) hO3 hgrow
     ·rw [List.mem_singleton] at hx
      subst hx
      exact plty_app (HPn.out.later ((Below.refl _ _).alloc (Nat.le_refl _) _)) hO3 hgrow
    have HO8:Hid (w8.ownsRow W.heap.size 51 2 v' (k+1) (cellsE (xs ++ [⟨⟨PL,nu⟩,A',c'⟩]))):=by
     show World.ownsRow _ _ _ _ _ _ _
     rw [cellsE_append,hsz]
     exact hown'
    have HB8:Hid (Below W.heap.size W w8):=by
     have h1:Below W.heap.size W (w2.alloc (.cells #[.slice A' PL.length c',.int .i64 nu] 51)):=(HBr.out.trans (HB2.out.mono hsw)).alloc hsw2 _
     exact h1.grown hgrow (by simp;omega) fun j hj=>(HO2.out.lt j hj).1
    have HX8:Hid (lE (xs ++ [⟨⟨PL,nu⟩,A',c'⟩])=(esL D n S).take (k+1)):=by
     show _=_
     rw [esL_take (by rw [HNe.out];exact hlt),HEn.out,←HXe.out]
     simp [lE]
    have HXl8:Hid ((xs ++ [(⟨⟨PL,nu⟩,A',c'⟩:EnL)]).length=k+1):=by show _=_;simp [HXl.out]
    clear hown' hgrow hnil hO3
    go_wp2_with fail
    go_roundg (N-(k+1))
    case measure=>omega
    case rel=>exact ⟨k+1,v',_,by omega,rfl,by go_num,rfl,HXl8,HX8,HO8,HP8,HN2,HB8⟩
   ·have hbd:badE D n S k=true:=by unfold badE;rw [HTx.out,decide_eq_true he]
    have hyes:ebad D n S=k:=by
     rw [←HF.out]
     obtain ⟨f,hf⟩:∃ f,N-k=f+1:=⟨N-k-1,by omega⟩
     rw [hf,findFrom_hit _ hbd]
    have HY0:=hid_of hyes
    rw [errV_some he] at hp
    obtain ⟨pe,hpe⟩:∃ pe,parseErr D n tx=pe:=⟨_,rfl⟩
    rw [hpe] at hp
    have HPe:=hid_of hpe
    generalize parseL D n tx=PL at hp
    clear he hbd hyes hpe
    go_wp2_with fail
    refine hp.mono ?_
    rintro e w2 ⟨⟨A',c',rfl,-⟩,hb2⟩
    have z0:=(hb2.cell (p:=⟨wr.heap.size,0,none⟩) hYs).trans y0
    have HB2:=hid_of ((HB0.out.trans (HBr.out.mono (by omega))).trans (onB HYb.out hb2 |>.mono (by have:=HB0.out.size;omega)))
    clear hb2 hp
    go_wp2_with fail
    go_quiet (fail)
    go_wp2_with fail
    go_ret3
    refine ⟨fun j hj=>?_,fun hj=>?_,below_drewN HB2.out _⟩
    ·have:j=k:=by have h:=HY0.out;rw [hj] at h;omega
     subst this
     rw [HLi.out,HTx.out,HPe.out]
     rfl
    ·have h:=HY0.out
     rw [hj] at h
     omega
  ·have hke:k=N:=by omega
   subst hke
   have hno:ebad D n S = -1:=by rw [←HF.out,Nat.sub_self];rfl
   have HNo:=hid_of hno
   obtain ⟨A7,c7,rfl⟩:=own_formK HO.out
   have HE7:Hid (wr.ownsRow w.heap.size 51 2 (.slice A7 k c7) k (cellsE xs)):=own_low HO.out (by omega)
   have HXa:Hid (lE xs=esL D n S):=by
    show _=_
    rw [HXe.out,List.take_of_length_le]
    unfold esL
    rw [List.length_map,List.length_range,HNe.out]
    exact Nat.le_refl _
   clear hno
   go_wp2_with fail
   go_ret3
   refine ⟨fun j hj=>?_,fun _=>⟨xs,A7,c7,by rw [HXl.out];rfl,HXa.out,by rw [HXl.out];exact HE7.out,HPl.out⟩,HB0.out.trans (HBr.out.mono (by omega))⟩
   rw [HNo.out] at hj
   omega
end Go.Proofs.YtinebmjpdkjooaaGreatDoor
namespace Go.Proofs.YtinebmjpdkjooaaGreatDoor
open Go.ChangeShapes Go.WideShapes Go.ChangeAt Go.RowKit
set_option maxRecDepth 20000
noncomputable def badD (D:Nat→Dm) (i:Nat):Bool:=decide ((rErr (D i)).2≠0)
noncomputable def ruErr (D:Nat→Dm) (n:Nat):Int×Int×Int :=
 if (allErr D n).2.2≠0 then allErr D n
 else if 0≤findFrom (badD D) n 0 then (findFrom (badD D) n 0,rErr (D (findFrom (badD D) n 0).toNat))
 else (-1,-1,0)
theorem ru0 {D:Nat→Dm} {n:Nat} (h:(allErr D n).2.2≠0):ruErr D n=allErr D n:=by unfold ruErr;rw [if_pos h]
theorem ru1 {D:Nat→Dm} {n i:Nat} (h:(allErr D n).2.2=0) (hi:i<n) (hb:(rErr (D i)).2≠0) (hf:∀ j,j<i→(rErr (D j)).2=0):ruErr D n=((i:Int),(rErr (D i)).1,(rErr (D i)).2):=by
 have e:findFrom (badD D) n 0=(i:Int):=findFrom_at (Nat.zero_le _) (by omega) (decide_eq_true hb) fun j _ hj=>decide_eq_false (by simpa using hf j hj)
 unfold ruErr
 rw [if_neg (by simpa using h),e,if_pos (by omega),Int.toNat_natCast]
theorem ru2 {D:Nat→Dm} {n:Nat} (h:(allErr D n).2.2=0) (hf:∀ j,j<n→(rErr (D j)).2=0):ruErr D n=(-1,-1,0):=by
 unfold ruErr
 rw [if_neg (by simpa using h),findFrom_none (p:=badD D) fun j _ hj=>decide_eq_false (by simpa using hf j (by omega)),if_neg (by omega)]
set_option maxHeartbeats 4000000 in
theorem rulall_any (A0:Option Addr) (cap n:Nat) (D:Nat→Dm) (A:Nat→Option Addr) (C:Nat→Nat) (w:World) (hM:DimsV w A0 cap n D A C):Calls Tryz.prog 16 #[.agg #[.slice A0 n cap]] w fun e w'=>e=.returned (.tuple #[.int .i64 (ruErr D n).1,.int .i64 (ruErr D n).2.1,errV (ruErr D n).2.2])∧Below w.heap.size w w':=by
 have hB0:=ownOut_below w A0 n cap 24
 have hS:=ownOut_size w A0 n cap 24
 have hA:=ownOut_at w A0 n cap 24
 have hal:=all_any A0 cap n D A C (ownOut w A0 n cap 24) (hM.later hB0)
 obtain ⟨W,hW⟩:∃ W,ownOut w A0 n cap 24=W:=⟨_,rfl⟩
 rw [hW] at hB0 hS hA hal
 unfold ownOut at hW
 have HB0:Hid (Below w.heap.size w W):=hB0
 have HM:Hid (DimsV w A0 cap n D A C):=hM
 have hsz:w.heap.size<W.heap.size:=by omega
 clear hM hB0
 by_cases he:(allErr D n).2.2=0
 case neg =>
  rw [ru0 he]
  rw [errV_some he] at hal ⊢
  generalize (allErr D n).1=x at hal ⊢
  generalize (allErr D n).2.1=y at hal ⊢
  generalize (allErr D n).2.2=c at hal ⊢
  clear he
  go_enter Tryz.func16,Tryz.ntmps16
  go_wp2_with fail
  refine hal.mono ?_
  rintro e w1 ⟨rfl,hb1⟩
  go_wp2_with fail
  go_returns
  exact ⟨rfl,onB HB0.out hb1⟩
 obtain ⟨hn1,hn4,-,-⟩:=allErr_some he
 have HE:Hid ((allErr D n).2.2=0):=he
 rw [he,errV_zero] at hal
 generalize (allErr D n).1=x at hal
 generalize (allErr D n).2.1=y at hal
 have hnI:(n:Int)≤4:=by omega
 have HA:Hid (W.cell? ⟨w.heap.size,0,none⟩=some (.slice A0 n cap)):=hA
 clear he
 go_enter Tryz.func16,Tryz.ntmps16
 go_wp2_with fail
 refine hal.mono ?_
 rintro e w1 ⟨rfl,hb1⟩
 have HB1:Hid (Below W.heap.size W w1):=hb1
 have c1:w1.cell? ⟨w.heap.size,0,none⟩=some (.slice A0 n cap):=(hb1.cell (p:=⟨w.heap.size,0,none⟩) hsz).trans hA
 have hsz1:w.heap.size<w1.heap.size:=Nat.lt_of_lt_of_le hsz hb1.size
 clear hb1 hal hA hW
 go_wp2_with fail
 go_loopg [26] n (fun g s26 wr => ∃ (k:Nat),k≤n∧g=n-k∧s26=.int .i64 k∧Hid (∀ j,j<k→(rErr (D j)).2=0)∧Below W.heap.size W wr)
 case atStart=>exact ⟨0,Nat.zero_le _,rfl,rfl,(fun j hj=>absurd hj (Nat.not_lt_zero _):∀ j,j<0→_),HB1.out⟩
 case round =>
  obtain ⟨k,hk,rfl,rfl,HK,hBw⟩:=hrel
  have HBw:Hid (Below W.heap.size W wr):=hBw
  by_cases hlt:k<n
  ·have hki:(k:Int)<(n:Int):=by omega
   obtain ⟨hcap,h0 | ⟨b,o,rfl,hMs⟩⟩:=HM.out.later (onB HB0.out hBw)
   ·omega
   have hcapI:(n:Int)≤(cap:Int):=by omega
   obtain ⟨h0,h1,h2,h3⟩:=hMs.2 k hlt
   have hbl:b<wr.heap.size:=hMs.1
   have hBo:=ownDim_below wr (D k) (A k) (C k) 43
   have hck:=rcheck_any (D k) (A k) (C k) (ownDim wr (D k) (A k) (C k) 43) (h3.later hBo)
   obtain ⟨d0,d1,d2,hqW⟩:=dim_cells (w:=wr) (d:=D k) (A:=A k) (cap:=C k) (Below.refl _ _)
   have HBo:Hid (Below wr.heap.size wr (ownDim wr (D k) (A k) (C k) 43)):=hBo
   unfold dimV at hck
   obtain ⟨W2,hW2⟩:∃ W2,ownDim wr (D k) (A k) (C k) 43=W2:=⟨_,rfl⟩
   rw [hW2] at d0 d1 d2 hqW HBo hck
   unfold ownDim at hW2
   clear h3 hMs hBo hBw
   by_cases he:(rErr (D k)).2=0
   ·rw [he,errV_zero] at hck
    have HK2:Hid (∀ j,j<k+1→(rErr (D j)).2=0):=fun j hj=>by
     by_cases e:j=k
     ·rw [e];exact he
     ·exact HK.out j (by omega)
    generalize (rErr (D k)).1=z at hck
    clear he
    go_wp2_with fail
    refine hck.mono ?_
    rintro e w2 ⟨rfl,hb2⟩
    have HB2:Hid (Below W.heap.size W w2):=onB HBw.out (onB HBo.out hb2)
    clear hb2 hck
    go_wp2_with fail
    go_roundg (n-(k+1))
    case measure=>omega
    case rel=>exact ⟨k+1,by omega,rfl,by go_num,HK2,HB2.out⟩
   ·have HRu:Hid (ruErr D n=((k:Int),(rErr (D k)).1,(rErr (D k)).2)):=ru1 HE.out hlt he HK.out
    have HEe:Hid ((rErr (D k)).2≠0):=he
    rw [errV_some he] at hck
    generalize (rErr (D k)).1=z at hck HRu
    generalize (rErr (D k)).2=c at hck HRu HEe
    clear he
    go_wp2_with fail
    refine hck.mono ?_
    rintro e w2 ⟨rfl,hb2⟩
    have HB2:Hid (Below W.heap.size W w2):=onB HBw.out (onB HBo.out hb2)
    clear hb2 hck
    go_wp2_with fail
    go_returns
    rw [HRu.out]
    exact ⟨by rw [errV_some HEe.out];rfl,onB HB0.out HB2.out⟩
  ·have hke:k=n:=by omega
   subst hke
   have HRu:Hid (ruErr D k=(-1,-1,0)):=ru2 HE.out HK.out
   clear hBw
   go_wp2_with fail
   go_returns
   rw [HRu.out]
   exact ⟨rfl,onB HB0.out HBw.out⟩
set_option maxHeartbeats 4000000 in
theorem srules_any (A0:Option Addr) (cap n:Nat) (D:Nat→Dm) (A:Nat→Option Addr) (C:Nat→Nat) (w:World) (hM:DimsV w A0 cap n D A C):Calls Tryz.prog 34 #[.agg #[.slice A0 n cap]] w fun e w'=>e=.returned (.tuple #[.int .i64 (ruErr D n).1,.int .i64 (ruErr D n).2.1,.int .i64 (ruErr D n).2.2])∧Below w.heap.size w w':=by
 have hB0:=ownOut_below w A0 n cap 24
 have hS:=ownOut_size w A0 n cap 24
 have hA:=ownOut_at w A0 n cap 24
 have hal:=routline_any A0 cap n D A C (ownOut w A0 n cap 24) (hM.later hB0)
 obtain ⟨W,hW⟩:∃ W,ownOut w A0 n cap 24=W:=⟨_,rfl⟩
 rw [hW] at hB0 hS hA hal
 unfold ownOut at hW
 have HB0:Hid (Below w.heap.size w W):=hB0
 have HM:Hid (DimsV w A0 cap n D A C):=hM
 have hsz:w.heap.size<W.heap.size:=by omega
 clear hM hB0
 by_cases he:(allErr D n).2.2=0
 case neg =>
  rw [ru0 he]
  have hne:((allErr D n).2.2 != 0)=true:=by simpa using he
  generalize (allErr D n).1=x at hal ⊢
  generalize (allErr D n).2.1=y at hal ⊢
  generalize (allErr D n).2.2=c at hal hne ⊢
  clear he
  go_enter Tryz.func34,Tryz.ntmps34
  go_wp2_with fail
  refine hal.mono ?_
  rintro e w1 ⟨rfl,hb1⟩
  go_wp2_with fail
  go_returns
  exact ⟨rfl,onB HB0.out hb1⟩
 obtain ⟨hn1,hn4,-,-⟩:=allErr_some he
 have HE:Hid ((allErr D n).2.2=0):=he
 rw [he] at hal
 generalize (allErr D n).1=x at hal
 generalize (allErr D n).2.1=y at hal
 have hnI:(n:Int)≤4:=by omega
 have HA:Hid (W.cell? ⟨w.heap.size,0,none⟩=some (.slice A0 n cap)):=hA
 clear he
 go_enter Tryz.func34,Tryz.ntmps34
 go_wp2_with fail
 refine hal.mono ?_
 rintro e w1 ⟨rfl,hb1⟩
 have HB1:Hid (Below W.heap.size W w1):=hb1
 clear hb1 hal hA hW
 go_wp2_with fail
 go_loopg [8] n (fun g s8 wr => ∃ (k:Nat),k≤n∧g=n-k∧s8=.int .i64 k∧Hid (∀ j,j<k→(rErr (D j)).2=0)∧Below W.heap.size W wr)
 case atStart=>exact ⟨0,Nat.zero_le _,rfl,rfl,(fun j hj=>absurd hj (Nat.not_lt_zero _):∀ j,j<0→_),HB1.out⟩
 case round =>
  obtain ⟨k,hk,rfl,rfl,HK,hBw⟩:=hrel
  have HBw:Hid (Below W.heap.size W wr):=hBw
  have cw:wr.cell? ⟨w.heap.size,0,none⟩=some (.slice A0 n cap):=(hBw.cell (p:=⟨w.heap.size,0,none⟩) hsz).trans HA.out
  have hszr:w.heap.size<wr.heap.size:=Nat.lt_of_lt_of_le hsz hBw.size
  by_cases hlt:k<n
  ·have hki:(k:Int)<(n:Int):=by omega
   obtain ⟨hcap,h0 | ⟨b,o,rfl,hMs⟩⟩:=HM.out.later (onB HB0.out hBw)
   ·omega
   have hcapI:(n:Int)≤(cap:Int):=by omega
   obtain ⟨h0,h1,h2,h3⟩:=hMs.2 k hlt
   have hbl:b<wr.heap.size:=hMs.1
   have hck:=sneeds_any (D k) (A k) (C k) wr h3
   unfold dimV at hck
   clear h3 hMs hBw
   by_cases he:(rErr (D k)).2=0
   ·have HK2:Hid (∀ j,j<k+1→(rErr (D j)).2=0):=fun j hj=>by
     by_cases e:j=k
     ·rw [e];exact he
     ·exact HK.out j (by omega)
    rw [he] at hck
    generalize (rErr (D k)).1=z at hck
    clear he
    go_wp2_with fail
    refine hck.mono ?_
    rintro e w2 ⟨⟨A2,c2,xs,rfl,-⟩,hb2⟩
    have HB2:Hid (Below W.heap.size W w2):=onB HBw.out hb2
    clear hb2 hck
    go_wp2_with fail
    go_roundg (n-(k+1))
    case measure=>omega
    case rel=>exact ⟨k+1,by omega,rfl,by go_num,HK2,HB2.out⟩
   ·have HRu:Hid (ruErr D n=((k:Int),(rErr (D k)).1,(rErr (D k)).2)):=ru1 HE.out hlt he HK.out
    have hne:((rErr (D k)).2 != 0)=true:=by simpa using he
    generalize (rErr (D k)).1=z at hck HRu
    generalize (rErr (D k)).2=c at hck HRu hne
    clear he
    go_wp2_with fail
    refine hck.mono ?_
    rintro e w2 ⟨⟨A2,c2,xs,rfl,-⟩,hb2⟩
    have HB2:Hid (Below W.heap.size W w2):=onB HBw.out hb2
    clear hb2 hck
    go_wp2_with fail
    go_returns
    rw [HRu.out]
    exact ⟨rfl,onB HB0.out HB2.out⟩
  ·have hke:k=n:=by omega
   subst hke
   have HRu:Hid (ruErr D k=(-1,-1,0)):=ru2 HE.out HK.out
   clear hBw
   go_wp2_with fail
   go_returns
   rw [HRu.out]
   exact ⟨rfl,onB HB0.out HBw.out⟩
end Go.Proofs.YtinebmjpdkjooaaGreatDoor
