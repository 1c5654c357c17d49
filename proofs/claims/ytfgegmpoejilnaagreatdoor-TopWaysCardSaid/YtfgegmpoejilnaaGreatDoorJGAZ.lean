/-
  How all members of a dim, and all dims of an outline, are told, as package solve lays them out: waysOf, lay, in whatever memory.
-/
import Derived.Test.YtfgegmpoejilnaaGreatDoorJGAW
import Derived.Test.YtfgegmpoejilnaaGreatDoorJGAY
namespace Go.Proofs.YtfgegmpoejilnaaGreatDoor
open Go.ChangeShapes Go.WideShapes Go.ChangeAt Go.RowKit
set_option maxRecDepth 20000
def cellsW (l:List WL):List Value:=l.flatMap cellsW1
theorem cellsW_snoc (l:List WL) (x:WL):cellsW (l ++ [x])=cellsW l ++ cellsW1 x:=by simp [cellsW]
theorem cellsW_at:∀ (l:List WL) (k:Nat),k<l.length→(cellsW l)[k*5]?=some (.bool (l.getD k noW).lf)∧(cellsW l)[k*5+1]?=some (.slice (l.getD k noW).An (l.getD k noW).nd.length (l.getD k noW).cn)∧(cellsW l)[k*5+2]?=some (.slice (l.getD k noW).As (l.getD k noW).nm.length (l.getD k noW).cs)∧(cellsW l)[k*5+3]?=some (.slice (l.getD k noW).Ai (l.getD k noW).ne.length (l.getD k noW).ci)∧(cellsW l)[k*5+4]?=some (.slice (l.getD k noW).Ag (l.getD k noW).sg.length (l.getD k noW).cg)
 | x :: r,0,_=>⟨rfl,rfl,rfl,rfl,rfl⟩
 | x :: r,k+1,h=>by
  have ih:=cellsW_at r k (by simpa using h)
  have e:cellsW (x :: r)=cellsW1 x ++ cellsW r:=rfl
  have hl:(cellsW1 x).length=5:=rfl
  rw [e]
  refine ⟨?_,?_,?_,?_,?_⟩
  ·rw [List.getElem?_append_right (by omega),hl,show (k+1)*5-5=k*5 by omega];exact ih.1
  ·rw [List.getElem?_append_right (by omega),hl,show (k+1)*5+1-5=k*5+1 by omega];exact ih.2.1
  ·rw [List.getElem?_append_right (by omega),hl,show (k+1)*5+2-5=k*5+2 by omega];exact ih.2.2.1
  ·rw [List.getElem?_append_right (by omega),hl,show (k+1)*5+3-5=k*5+3 by omega];exact ih.2.2.2.1
  ·rw [List.getElem?_append_right (by omega),hl,show (k+1)*5+4-5=k*5+4 by omega];exact ih.2.2.2.2
def WaysV (w:World) (A:Option Addr) (cap:Nat) (xs:List WL):Prop:=xs.length≤cap∧(xs=[]∨∃ b cs fr,A=some ⟨b,0,none⟩∧w.heap[b]?=some (.cells cs 130 fr)∧∀ k,k<xs.length→cs[k*5]?=some (.bool (xs.getD k noW).lf)∧cs[k*5+1]?=some (.slice (xs.getD k noW).An (xs.getD k noW).nd.length (xs.getD k noW).cn)∧cs[k*5+2]?=some (.slice (xs.getD k noW).As (xs.getD k noW).nm.length (xs.getD k noW).cs)∧cs[k*5+3]?=some (.slice (xs.getD k noW).Ai (xs.getD k noW).ne.length (xs.getD k noW).ci)∧cs[k*5+4]?=some (.slice (xs.getD k noW).Ag (xs.getD k noW).sg.length (xs.getD k noW).cg))∧∀ x∈xs,WayT w x
theorem WaysV.keepA {w w':World} {A:Option Addr} {cap:Nat} {xs:List WL} (h:WaysV w A cap xs) (hB:OffT 116 w w'):WaysV w' A cap xs:=by
 obtain ⟨h1,h2,h3⟩:=h
 refine ⟨h1,?_,fun x hx=>(h3 x hx).keepA hB⟩
 rcases h2 with h2 | ⟨b,cs,fr,h2,h4,h5⟩
 ·exact Or.inl h2
 ·exact Or.inr ⟨b,cs,fr,h2,(hB b cs _ fr h4 ax_ne_way).trans h4,h5⟩
theorem WaysV.later {w w':World} {A:Option Addr} {cap:Nat} {xs:List WL} (h:WaysV w A cap xs) (hB:Below w.heap.size w w'):WaysV w' A cap xs:=by
 obtain ⟨h1,h2,h3⟩:=h
 refine ⟨h1,?_,fun x hx=>(h3 x hx).later hB⟩
 rcases h2 with h2 | ⟨b,cs,fr,h2,h4,h5⟩
 ·exact Or.inl h2
 ·exact Or.inr ⟨b,cs,fr,h2,(hB.block b (Array.getElem?_eq_some_iff.1 h4).1).trans h4,h5⟩
theorem ways_own {w:World} {base:Nat} {v:Value} {xs:List WL} (h:w.ownsRow base 130 5 v xs.length (cellsW xs)) (hp:∀ x∈xs,WayT w x):∃ A c,v=.slice A xs.length c∧WaysV w A c xs:=by
 rcases h.2 with ⟨rfl,h0⟩ | ⟨g,cap,cur,rfl,hb,hg,h4,h5,h6,h7⟩
 ·have hL:xs=[]:=List.eq_nil_of_length_eq_zero h0
  subst hL
  exact ⟨none,0,rfl,by simp,Or.inl rfl,hp⟩
 ·refine ⟨_,_,rfl,h4,Or.inr ⟨g,cur,_,rfl,hg,fun k hk=>?_⟩,hp⟩
  obtain ⟨x0,x1,x2,x3,x4⟩:=cellsW_at xs k hk
  rw [←h7,List.getElem?_take,if_pos (by omega),Array.getElem?_toList] at x0 x1 x2 x3 x4
  exact ⟨x0,x1,x2,x3,x4⟩
theorem Tryz.infoWay:(Tryz.prog.info? 130).map (fun i=>(i.zero,i.size,i.bytes))=some (some (.agg #[.bool false,.slice none 0 0,.slice none 0 0,.slice none 0 0,.slice none 0 0]),5,104):=by kernel_rfl
theorem off_way {w w':World} {base n:Nat} {v:Value} {zs:List Value} (hown:w.ownsRow base 130 5 v n zs) (hG:w.grownBy w' v.ownBlock):OffT 130 w w':=fun b cs t fr hb ht=>by
 refine hG.block b (Array.getElem?_eq_some_iff.1 hb).1 fun e=>?_
 rcases hown.2 with ⟨rfl,-⟩ | ⟨g,cap,cur,rfl,-,hg,-⟩
 ·cases e
 ·simp only [Value.ownBlock,Option.some.injEq] at e
  rw [e,hg] at hb
  simp only [Option.some.injEq,Obj.cells.injEq] at hb
  exact ht hb.2.1.symm
theorem plain_addW (b j:Nat):(⟨b,0,none⟩:Addr).add j=⟨b,j,none⟩:=by unfold Addr.add;split <;> simp_all
set_option maxHeartbeats 4000000 in
theorem waysof_any (d:Dm) (A:Option Addr) (cap:Nat) (w:World) (hR:(rErr d).2=0) (hM:MemsV w A cap d.n d.mem) :
  Calls Tryz.prog 51 #[dimV d A cap] w fun e w'=>(∃ A' c' xs,e=.returned (.tuple #[.slice A' d.n c',.nilIface])∧xs.length=d.n∧WaysV w' A' c' xs∧∀ k,k<d.n→WayOf d k (xs.getD k noW))∧Below w.heap.size w w':=by
 obtain ⟨i0,hi0,hz0,hz1,hz2⟩:=info_parts Tryz.infoWay
 obtain ⟨hd,-,-,-⟩:=rErr_right hR
 obtain ⟨-,-,hd2,-⟩:=dimErr_right hd
 have hB0:=ownDim_below w d A cap 30
 have hS:=ownDim_size w d A cap 30
 have HDc:Hid (∀ w1,Below (ownDim w d A cap 30).heap.size (ownDim w d A cap 30) w1→w1.cell? ⟨w.heap.size,0,none⟩=some (.string d.name)∧w1.cell? ⟨w.heap.size,1,none⟩=some (.int .i64 d.solve)∧w1.cell? ⟨w.heap.size,2,none⟩=some (.slice A d.n cap)∧w.heap.size<w1.heap.size):=fun w1 h=>dim_cells h
 have HWy:Hid (∀ w' i,Below w.heap.size w w'→i<d.n→Calls Tryz.prog 86 #[dimV d A cap,.int .i64 i] w' fun e w''=>(∃ x,e=.returned (.tuple #[wayV x,.nilIface])∧WayT w'' x∧WayOf d i x)∧Below w'.heap.size w' w''):=fun w' i hb hi=>wayof_any d A cap i w' hR hi (hM.later hb)
 unfold dimV at HWy ⊢
 obtain ⟨W,hW⟩:∃ W,ownDim w d A cap 30=W:=⟨_,rfl⟩
 rw [hW] at hB0 hS HDc
 unfold ownDim at hW
 obtain ⟨o0,o1,o2,hq⟩:=HDc.out W (Below.refl _ _)
 have HB0:Hid (Below w.heap.size w W):=hB0
 obtain ⟨n,hn⟩:∃ n,d.n=n:=⟨_,rfl⟩
 have HN:Hid (d.n=n):=hn
 rw [hn] at o2 HWy hd2 hW HDc ⊢
 have hnI:(n:Int)≤12:=by omega
 clear hB0 hR hM hd hn hS
 go_enter Tryz.func51,Tryz.ntmps51
 go_wp2_with fail
 clear hW o0 o1 o2
 go_loopg [4,11] n (fun g s4 s11 wr => ∃ (k:Nat) (v:Value) (xs:List WL),k≤n∧g=n-k∧s11=.int .i64 k∧v=s4∧Hid (xs.length=k∧(∀ j,j<k→WayOf d j (xs.getD j noW))∧∀ x∈xs,WayT wr x)∧wr.ownsRow W.heap.size 130 5 v k (cellsW xs)∧Below W.heap.size W wr)
 case atStart=>exact ⟨0,_,[],Nat.zero_le _,rfl,rfl,rfl,(⟨rfl,fun j hj=>absurd hj (Nat.not_lt_zero _),fun x hx=>by cases hx⟩:_∧_∧_),World.ownsRow_nil _ _ _ _,Below.refl _ _⟩
 case round =>
  obtain ⟨k,v,xs,hk,rfl,rfl,rfl,HY,hO,hBw⟩:=hrel
  have HO:Hid (wr.ownsRow W.heap.size 130 5 v k (cellsW xs)):=hO
  have HBw:Hid (Below W.heap.size W wr):=hBw
  by_cases hlt:k<n
  ·have hki:(k:Int)<(n:Int):=by omega
   obtain ⟨p0,p1,p2,hq1⟩:=HDc.out wr hBw
   have hwy:=HWy.out wr k (onB HB0.out hBw) hlt
   clear hO hBw
   go_wp2_with fail
   refine hwy.mono ?_
   rintro e w1 ⟨⟨x,rfl,hT,hOf⟩,hb1⟩
   have HT1:Hid (WayT w1 x∧WayOf d k x):=⟨hT,hOf⟩
   have HB1:Hid (Below wr.heap.size wr w1):=hb1
   obtain ⟨y,hy⟩:∃ y,w1.alloc (.cells #[.bool x.lf,.slice x.An x.nd.length x.cn,.slice x.As x.nm.length x.cs,.slice x.Ai x.ne.length x.ci,.slice x.Ag x.sg.length x.cg] 130)=y:=⟨_,rfl⟩
   have hyb:y.heap[w1.heap.size]?=some (.cells #[.bool x.lf,.slice x.An x.nd.length x.cn,.slice x.As x.nm.length x.cs,.slice x.Ai x.ne.length x.ci,.slice x.Ag x.sg.length x.cg] 130 (0,0)):=by rw [←hy];exact heap_alloc_new ..
   have y0:y.cell? ⟨w1.heap.size,0,none⟩=some (.bool x.lf):=by simp [World.cell?,hyb]
   have y1:y.cell? ⟨w1.heap.size,1,none⟩=some (.slice x.An x.nd.length x.cn):=by simp [World.cell?,hyb]
   have y2:y.cell? ⟨w1.heap.size,2,none⟩=some (.slice x.As x.nm.length x.cs):=by simp [World.cell?,hyb]
   have y3:y.cell? ⟨w1.heap.size,3,none⟩=some (.slice x.Ai x.ne.length x.ci):=by simp [World.cell?,hyb]
   have y4:y.cell? ⟨w1.heap.size,4,none⟩=some (.slice x.Ag x.sg.length x.cg):=by simp [World.cell?,hyb]
   have hBy:Below w1.heap.size w1 y:=by rw [←hy];go_grown
   have HBy:Hid (Below wr.heap.size wr y):=onB hb1 hBy
   have HTy:Hid (WayT y x∧WayOf d k x):=⟨hT.later hBy,hOf⟩
   have HOy:Hid (y.ownsRow W.heap.size 130 5 v k (cellsW xs)):=own_later HO.out HBy.out
   have HBWy:Hid (Below W.heap.size W y):=onB HBw.out HBy.out
   have HYy:Hid (∀ z∈xs,WayT y z):=fun z hz=>(HY.out.2.2 z hz).later HBy.out
   have hszy:=HBWy.out.size
   unfold wayV
   clear hb1 hT hOf hwy hyb hBy p0 p1 p2
   go_wp2_with (at_builtin;refine wpList_append_own _ rfl _ _ 112 rfl W.heap.size 130 i0 (.agg #[.bool false,.slice none 0 0,.slice none 0 0,.slice none 0 0,.slice none 0 0]) 5 104 Tryz.underlying112 hi0 hz0 hz1 hz2 rfl (by decide) _ _ _ rfl (HOy.out.alloc _) ⟨y.heap.size,0,none⟩ 1 1 (cellsW1 x) rfl rfl ?qe2 ?qe3 ?qe4 ?qe5 ?qe6 ?_)
   case qe2 =>
    intro j u hj
    rw [plain_addW,Lib.cell_of_heap (heap_alloc_new y (.cells #[.bool x.lf,.slice x.An x.nd.length x.cn,.slice x.As x.nm.length x.cs,.slice x.Ai x.ne.length x.ci,.slice x.Ag x.sg.length x.cg] 130))]
    simpa [cellsW1] using hj
   case qe3=>intro u hu;simp [cellsW1] at hu;rcases hu with rfl | rfl | rfl | rfl | rfl <;> rfl
   case qe4=>simp only [maxLen];omega
   case qe5=>omega
   case qe6=>simp;omega
   intro v' w4 hown' hgrow hnil
   have HB4:Hid (Below W.heap.size W w4):=grown_own HBWy.out HOy.out hgrow
   have HO4:Hid (w4.ownsRow W.heap.size 130 5 v' (k+1) (cellsW (xs ++ [x]))):=by
    show World.ownsRow ..
    rw [cellsW_snoc]
    exact hown'
   have hoff:∀ z,WayT y z→WayT w4 z:=fun z hz=>(hz.later (by go_grown)).keepW (off_way (HOy.out.alloc _) hgrow)
   have HY4:Hid ((xs ++ [x]).length=k+1∧(∀ j,j<k+1→WayOf d j ((xs ++ [x]).getD j noW))∧∀ z∈xs ++ [x],WayT w4 z):=by
    have hlen:=HY.out.1
    refine ⟨by rw [List.length_append,hlen];rfl,fun j hj=>?_,fun z hz=>?_⟩
    ·by_cases e:j=k
     ·rw [e,List.getD_eq_getElem?_getD,List.getElem?_append_right (by omega),hlen,Nat.sub_self]
      exact HTy.out.2
     ·rw [List.getD_eq_getElem?_getD,List.getElem?_append_left (by omega),←List.getD_eq_getElem?_getD]
      exact HY.out.2.1 j (by omega)
    ·rcases List.mem_append.1 hz with hz | hz
     ·exact hoff z (HYy.out z hz)
     ·rw [List.mem_singleton.1 hz]
      exact hoff x HTy.out.1
   clear hown' hgrow hnil y0 y1 y2 y3 y4 hy hoff
   go_wp2_with fail
   go_roundg (n-(k+1))
   case measure=>omega
   case rel=>exact ⟨k+1,_,xs ++ [x],by omega,rfl,by go_num,rfl,HY4,HO4.out,HB4.out⟩
  ·have hke:k=n:=by omega
   subst hke
   have HF:Hid (∃ A' c',v=.slice A' k c'∧WaysV wr A' c' xs):=by
    have hlen:=HY.out.1
    have h:=hO
    rw [←hlen] at h
    obtain ⟨A',c',e,hv⟩:=ways_own h HY.out.2.2
    rw [hlen] at e
    exact ⟨A',c',e,hv⟩
   clear hO hBw
   go_wp2_with fail
   go_returns
   obtain ⟨A',c',e,hv⟩:=HF.out
   exact ⟨⟨A',c',xs,by rw [←e];rfl,HY.out.1,hv,HY.out.2.1⟩,onB HB0.out HBw.out⟩
def apT (D:Nat→Dm) (n:Nat):Nat→Nat
 | 0=>1
 | k+1=>apT D n k*(D (n-1-k)).n
theorem apT_step {D:Nat→Dm} {n:Nat}:∀ k,k<n→apT D n k=stepD D n (n-1-k)
 | 0,h=>by unfold stepD;rw [show n-1-(n-1-0)=0 by omega];rfl
 | k+1,h=>by
  rw [apT,apT_step k (by omega)]
  unfold stepD
  rw [show n-1-(n-1-(k+1))=k+1 by omega,stepTo_front,show n-1-(k+1)+1=n-1-k by omega,show n-1-(n-1-k)=k by omega]
  exact Nat.mul_comm _ _
theorem apT_le {D:Nat→Dm} {n:Nat} (h:∀ j,j<n→(D j).n≤12):∀ k,k≤n→apT D n k≤12 ^ k
 | 0,_=>Nat.le_refl _
 | k+1,hk=>by
  rw [apT,Nat.pow_succ]
  exact Nat.mul_le_mul (apT_le h k (by omega)) (h _ (by omega))
theorem apT_small {D:Nat→Dm} {n:Nat} (hn:n≤4) (h:∀ j,j<n→(D j).n≤12) {k:Nat} (hk:k≤n):apT D n k≤20736 :=
 Nat.le_trans (apT_le h k hk) (Nat.le_trans (Nat.pow_le_pow_right (by omega) (show k≤4 by omega)) (by decide))
structure AL where
 xs:List WL
 A:Option Addr
 c:Nat
def AxC (cur:Array Value) (o:Nat) (d:Dm) (ap:Nat) (x:AL):Prop:=cur[o]?=some (.int .i64 d.solve)∧cur[o+1]?=some (.int .i64 ap)∧cur[o+2]?=some (.slice x.A d.n x.c)
def AxOne (w:World) (d:Dm) (x:AL):Prop:=x.xs.length=d.n∧WaysV w x.A x.c x.xs∧∀ k,k<d.n→WayOf d k (x.xs.getD k noW)
theorem AxOne.later {w w':World} {d:Dm} {x:AL} (h:AxOne w d x) (hB:Below w.heap.size w w'):AxOne w' d x:=⟨h.1,h.2.1.later hB,h.2.2⟩
theorem AxOne.keepA {w w':World} {d:Dm} {x:AL} (h:AxOne w d x) (hB:OffT 116 w w'):AxOne w' d x:=⟨h.1,h.2.1.keepA hB,h.2.2⟩
def LInv (w:World) (g n k:Nat) (D:Nat→Dm) (X:Nat→AL):Prop := ∃ cur,w.heap[g]?=some (.cells cur 116 (0,0))∧cur.size=n*3∧∀ i,n-k≤i→i<n→AxC cur (i*3) (D i) (stepD D n i) (X i)∧AxOne w (D i) (X i)
theorem LInv.later {w w':World} {g n k:Nat} {D:Nat→Dm} {X:Nat→AL} (h:LInv w g n k D X) (hB:Below w.heap.size w w'):LInv w' g n k D X:=by
 obtain ⟨cur,h1,h2,h3⟩:=h
 exact ⟨cur,(hB.block g (Array.getElem?_eq_some_iff.1 h1).1).trans h1,h2,fun i a b=>⟨(h3 i a b).1,(h3 i a b).2.later hB⟩⟩
def PlanV (w:World) (q g n:Nat) (D:Nat→Dm) (X:Nat→AL):Prop:=w.heap[q]?=some (.cells #[.slice (some ⟨g,0,none⟩) n n,.int .i64 (prodN D n:Nat)] 118 (0,0))∧LInv w g n n D X
theorem PlanV.later {w w':World} {q g n:Nat} {D:Nat→Dm} {X:Nat→AL} (h:PlanV w q g n D X) (hB:Below w.heap.size w w'):PlanV w' q g n D X:=⟨(hB.block q (Array.getElem?_eq_some_iff.1 h.1).1).trans h.1,h.2.later hB⟩
theorem PlanV.cells {w:World} {q g n:Nat} {D:Nat→Dm} {X:Nat→AL} (h:PlanV w q g n D X):q<w.heap.size∧w.cell? ⟨q,0,none⟩=some (.slice (some ⟨g,0,none⟩) n n)∧w.cell? ⟨q,1,none⟩=some (.int .i64 (prodN D n:Nat)) :=
 ⟨(Array.getElem?_eq_some_iff.1 h.1).1,by simp [World.cell?,h.1],by simp [World.cell?,h.1]⟩
theorem putx3 {w:World} {g o T:Nat} {cur:Array Value} {fr:Nat×Nat} {a b c:Value} (h:w.heap[g]?=some (.cells cur T fr)):OffT T w (((w.setCell ⟨g,o,none⟩ a).setCell ⟨g,o+1,none⟩ b).setCell ⟨g,o+2,none⟩ c)∧(((w.setCell ⟨g,o,none⟩ a).setCell ⟨g,o+1,none⟩ b).setCell ⟨g,o+2,none⟩ c).heap[g]?=some (.cells (((cur.setIfInBounds o a).setIfInBounds (o+1) b).setIfInBounds (o+2) c) T fr) :=
 ⟨offT_trans (offT_trans (offT_set h) (offT_set (set_ty h))) (offT_set (set_ty (set_ty h))),set_ty (set_ty (set_ty h))⟩
theorem put3_off {cur:Array Value} {o j:Nat} {a b c:Value} (h:j<o∨o+3≤j):(((cur.setIfInBounds o a).setIfInBounds (o+1) b).setIfInBounds (o+2) c)[j]?=cur[j]?:=by
 rw [Array.getElem?_setIfInBounds_ne (by omega),Array.getElem?_setIfInBounds_ne (by omega),Array.getElem?_setIfInBounds_ne (by omega)]
theorem put3_at {cur:Array Value} {o:Nat} {a b c:Value} (h:o+3≤cur.size):(((cur.setIfInBounds o a).setIfInBounds (o+1) b).setIfInBounds (o+2) c)[o]?=some a∧(((cur.setIfInBounds o a).setIfInBounds (o+1) b).setIfInBounds (o+2) c)[o+1]?=some b∧(((cur.setIfInBounds o a).setIfInBounds (o+1) b).setIfInBounds (o+2) c)[o+2]?=some c:=by
 refine ⟨?_,?_,?_⟩
 ·rw [Array.getElem?_setIfInBounds_ne (by omega),Array.getElem?_setIfInBounds_ne (by omega),Array.getElem?_setIfInBounds_self,if_pos (by omega)]
 ·rw [Array.getElem?_setIfInBounds_ne (by omega),Array.getElem?_setIfInBounds_self,if_pos (by simp;omega)]
 ·rw [Array.getElem?_setIfInBounds_self,if_pos (by simp;omega)]
theorem LInv.put {w:World} {g n k i:Nat} {D:Nat→Dm} {X:Nat→AL} {x:AL} (h:LInv w g n k D X) (hi:n=k+1+i) (hx:AxOne w (D i) x) :
  LInv (((w.setCell ⟨g,i*3,none⟩ (.int .i64 (D i).solve)).setCell ⟨g,i*3+1,none⟩ (.int .i64 (stepD D n i))).setCell ⟨g,i*3+2,none⟩ (.slice x.A (D i).n x.c)) g n (k+1) D (fun j=>if j=i then x else X j):=by
 obtain ⟨cur,h1,h2,h3⟩:=h
 obtain ⟨o1,o2⟩:=putx3 (o:=i*3) (a:=.int .i64 (D i).solve) (b:=.int .i64 (stepD D n i)) (c:=.slice x.A (D i).n x.c) h1
 refine ⟨_,o2,by simp [h2],fun j a b=>?_⟩
 by_cases e:j=i
 ·subst e
  simp only [if_true]
  exact ⟨put3_at (by omega),hx.keepA o1⟩
 ·simp only [if_neg e]
  obtain ⟨⟨c0,c1,c2⟩,hA⟩:=h3 j (by omega) b
  have hj:i<j:=by omega
  refine ⟨⟨?_,?_,?_⟩,hA.keepA o1⟩
  ·rw [put3_off (by omega)];exact c0
  ·rw [put3_off (by omega)];exact c1
  ·rw [put3_off (by omega)];exact c2
theorem Tryz.infoAx:(Tryz.prog.info? 116).map (fun i=>(i.zero,i.size,i.bytes))=some (some (.agg #[.int .i64 0,.int .i64 0,.slice none 0 0]),3,40):=by kernel_rfl
theorem run_make_axes (n:Nat) (hn:n≤3000) (w:World):(Instr.makeSlice 111 (.int .i64 (n:Int)) (.int .i64 (n:Int))).run Tryz.prog w=.ok (.slice (some ⟨w.heap.size,0,none⟩) n n) (w.alloc (.cells (madeCells #[.int .i64 0,.int .i64 0,.slice none 0 0] (n*3)) 116)):=by
 obtain ⟨i0,hi0,hz0,hz1,hz2⟩:=info_parts Tryz.infoAx
 have hr:=run_make (P:=Tryz.prog) w 111 116 i0 _ Tryz.underlying111 hi0 hz0 .i64 .i64 n n (by omega) (Int.le_refl _) (by rw [hz2];omega) (by omega)
 simp only [Int.toNat_natCast,hz1] at hr
 exact hr
set_option maxHeartbeats 4000000 in
theorem new_bad (A0:Option Addr) (cap n:Nat) (D:Nat→Dm) (A:Nat→Option Addr) (C:Nat→Nat) (w:World) (he:(ruErr D n).2.2≠0) (hM:DimsV w A0 cap n D A C) :
  Calls Tryz.prog 26 #[.agg #[.slice A0 n cap]] w fun e w'=>e=.returned (.tuple #[.pointer none,errV (ruErr D n).2.2])∧Below w.heap.size w w':=by
 have hB0:=ownOut_below w A0 n cap 24
 have hA:=ownOut_at w A0 n cap 24
 have hal:=rulall_any A0 cap n D A C (ownOut w A0 n cap 24) (hM.later hB0)
 rw [errV_some he] at hal ⊢
 obtain ⟨W,hW⟩:∃ W,ownOut w A0 n cap 24=W:=⟨_,rfl⟩
 rw [hW] at hB0 hA hal
 unfold ownOut at hW
 have HB0:Hid (Below w.heap.size w W):=hB0
 generalize (ruErr D n).1=x at hal
 generalize (ruErr D n).2.1=y at hal
 generalize (ruErr D n).2.2=z at hal ⊢
 clear hM hB0 he
 go_enter Tryz.func26,Tryz.ntmps26
 go_wp2_with fail
 refine hal.mono ?_
 rintro e w1 ⟨rfl,hb1⟩
 go_wp2_with fail
 go_returns
 exact ⟨rfl,onB HB0.out hb1⟩
set_option maxHeartbeats 8000000 in
theorem new_any (A0:Option Addr) (cap n:Nat) (D:Nat→Dm) (A:Nat→Option Addr) (C:Nat→Nat) (w:World) (hE:(allErr D n).2.2=0) (hR:AllR D n) (hM:DimsV w A0 cap n D A C) :
  Calls Tryz.prog 26 #[.agg #[.slice A0 n cap]] w fun e w'=>(∃ q g X,e=.returned (.tuple #[.pointer (some ⟨q,0,none⟩),.nilIface])∧w.heap.size≤q∧w.heap.size≤g∧PlanV w' q g n D X)∧Below w.heap.size w w':=by
 obtain ⟨hn1,hn4,hp3,hd⟩:=allErr_some hE
 have hB0:=ownOut_below w A0 n cap 24
 have hS:=ownOut_size w A0 n cap 24
 have hA:=ownOut_at w A0 n cap 24
 have hal:=rulall_any A0 cap n D A C (ownOut w A0 n cap 24) (hM.later hB0)
 rw [ru2 hE hR,errV_zero] at hal
 obtain ⟨W,hW⟩:∃ W,ownOut w A0 n cap 24=W:=⟨_,rfl⟩
 rw [hW] at hB0 hS hA hal
 unfold ownOut at hW
 have HB0:Hid (Below w.heap.size w W):=hB0
 have HM:Hid (DimsV w A0 cap n D A C):=hM
 have HR:Hid (AllR D n):=hR
 have HD:Hid (∀ i,i<n→1≤(D i).n∧(D i).n≤12):=hd
 have HA:Hid (W.cell? ⟨w.heap.size,0,none⟩=some (.slice A0 n cap)):=hA
 have HPc:Hid (∀ w',Below w.heap.size w w'→Calls Tryz.prog 50 #[.agg #[.slice A0 n cap]] w' fun e w''=>e=.returned (.tuple #[.int .i64 (prodN D n:Nat),.nilIface])∧Below w'.heap.size w' w''):=fun w' hB=>by
  have h:=pcells_any A0 cap n D A C w' (hM.later hB)
  rw [hE,errV_zero,show cellsV D n=(prodN D n:Nat) by unfold cellsV;rw [if_pos hE]] at h
  exact h
 have hsz:w.heap.size<W.heap.size:=by omega
 have hnI:(n:Int)≤4:=by omega
 have hnI1:1≤(n:Int):=by omega
 have hmk:=run_make_axes n (by omega)
 obtain ⟨N,hN⟩:∃ N,prodN D n=N:=⟨_,rfl⟩
 have HN:Hid (prodN D n=N):=hN
 rw [hN] at HPc
 clear hM hB0 hR hd hE hN hp3
 go_enter Tryz.func26,Tryz.ntmps26
 go_wp2_with fail
 refine hal.mono ?_
 rintro e w0 ⟨rfl,hb0⟩
 have HBa:Hid (Below w.heap.size w w0):=onB HB0.out hb0
 have c0:=(hb0.cell (p:=⟨w.heap.size,0,none⟩) hsz).trans HA.out
 have hsz0:w.heap.size<w0.heap.size:=Nat.lt_of_lt_of_le hsz hb0.size
 clear hb0 hal hA hW
 go_wp2_with fail
 refine (HPc.out w0 HBa.out).mono ?_
 rintro e w1 ⟨rfl,hb1⟩
 have HB1:Hid (Below w.heap.size w w1):=onB HBa.out hb1
 have c1:=(hb1.cell (p:=⟨w.heap.size,0,none⟩) hsz0).trans c0
 have hsz1:w.heap.size<w1.heap.size:=Nat.lt_of_lt_of_le hsz0 hb1.size
 obtain ⟨v,hv⟩:∃ v,w1.alloc (.cells (madeCells #[.int .i64 0,.int .i64 0,.slice none 0 0] (n*3)) 116)=v:=⟨_,rfl⟩
 have hBv:Below w1.heap.size w1 v:=by rw [←hv];go_grown
 have HBv:Hid (Below w1.heap.size w1 v):=hBv
 have HLv:Hid (∀ X,LInv v w1.heap.size n 0 D X):=by
  intro X
  refine ⟨_,by rw [←hv];exact heap_alloc_new ..,by simp [madeCells],fun i a b=>by omega⟩
 have cv:=(hBv.cell (p:=⟨w.heap.size,0,none⟩) hsz1).trans c1
 have HCv:Hid (v.cell? ⟨w.heap.size,0,none⟩=some (.slice A0 n cap)):=cv
 have hszv:w.heap.size<v.heap.size:=Nat.lt_of_lt_of_le hsz1 hBv.size
 clear hb1 hBv c0
 go_wp2_with fail
 clear hmk hv cv c1
 go_loopg [10,11] n (fun gg s10 s11 wr => ∃ (k:Nat) (X:Nat→AL),k≤n∧gg=n-k∧s10=.int .i64 (apT D n k:Nat)∧s11=.int .i64 ((n:Int)-1-(k:Int))∧Hid (LInv wr w1.heap.size n k D X)∧Hid (Below w1.heap.size w1 wr))
 case atStart=>exact ⟨0,fun _=>⟨[],none,0⟩,Nat.zero_le _,rfl,rfl,by go_num,HLv.out _,HBv⟩
 case round =>
  obtain ⟨k,X,hk,rfl,rfl,rfl,HL,HBw⟩:=hrel
  have cw:wr.cell? ⟨w.heap.size,0,none⟩=some (.slice A0 n cap):=(HBw.out.cell (p:=⟨w.heap.size,0,none⟩) hsz1).trans (by have:=(HBv.out.cell (p:=⟨w.heap.size,0,none⟩) hsz1);rw [←this];exact HCv.out)
  have hszr:w.heap.size<wr.heap.size:=Nat.lt_of_lt_of_le hsz1 HBw.out.size
  by_cases hlt:k<n
  ·obtain ⟨i,hi⟩:∃ i,n=k+1+i:=⟨n-k-1,by omega⟩
   have hin:i<n:=by omega
   have e9:(n:Int)-1-(k:Int)=(i:Int):=by omega
   rw [e9]
   have HI:Hid (n=k+1+i):=hi
   have hii:(i:Int)<(n:Int):=by omega
   obtain ⟨hcap,h0 | ⟨b,o,rfl,hMs⟩⟩:=HM.out.later (onB HB1.out HBw.out)
   ·omega
   have hcapI:(n:Int)≤(cap:Int):=by omega
   have hbr:b<wr.heap.size:=hMs.1
   obtain ⟨d0,d1,d2,d3⟩:=hMs.2 i hin
   have hwy:=waysof_any (D i) (A i) (C i) wr (HR.out i hin) d3
   unfold dimV at hwy
   have HAp:Hid (apT D n k=stepD D n i):=by show _=_;rw [apT_step k hlt,show n-1-k=i by omega]
   have HAn:Hid (apT D n (k+1)=apT D n k*(D i).n):=by show _=_;rw [apT,show n-1-k=i by omega]
   have hap1:(apT D n k:Int)≤20736:=by have:=apT_small (D:=D) hn4 (fun j hj=>(HD.out j hj).2) (k:=k) (by omega);omega
   have hap2:(apT D n (k+1):Int)≤20736:=by have:=apT_small (D:=D) hn4 (fun j hj=>(HD.out j hj).2) (k:=k+1) (by omega);omega
   have hap3:(apT D n (k+1):Int)=(apT D n k:Int)*((D i).n:Int):=by rw [HAn.out];exact Int.natCast_mul _ _
   have hap4:0≤(apT D n k:Int)*((D i).n:Int):=by rw [←hap3];omega
   have hap5:(apT D n k:Int)*((D i).n:Int)≤20736:=by rw [←hap3];exact hap2
   have HA3:Hid ((apT D n (k+1):Int)=(apT D n k:Int)*((D i).n:Int)):=hap3
   have HMs:Hid (DimsAt wr b o n D A C):=hMs
   clear d3 hMs hap2 hap3 e9 hi
   go_wp2_with fail
   refine hwy.mono ?_
   rintro e w2 ⟨⟨A2,c2,xs,rfl,hxl,hxv,hxo⟩,hb2⟩
   have HX2:Hid (AxOne w2 (D i) ⟨xs,A2,c2⟩):=(⟨hxl,hxv,hxo⟩:_∧_∧_)
   have HB2:Hid (Below w1.heap.size w1 w2):=onB HBw.out hb2
   have HL2:Hid (LInv w2 w1.heap.size n k D X):=HL.out.later hb2
   have cw2:=(hb2.cell (p:=⟨w.heap.size,0,none⟩) hszr).trans cw
   have hsz2:w.heap.size<w2.heap.size:=Nat.lt_of_lt_of_le hszr hb2.size
   obtain ⟨q0,q1,q2,-⟩:=(HMs.out.later hb2).2 i hin
   have hbr2:b<w2.heap.size:=Nat.lt_of_lt_of_le hbr hb2.size
   obtain ⟨cur,hcur,hcs,-⟩:=HL2.out
   have hg2:w1.heap.size<w2.heap.size:=(Array.getElem?_eq_some_iff.1 hcur).1
   have hcc:∀ j,j<n*3→∃ u,w2.cell? ⟨w1.heap.size,j,none⟩=some u:=fun j hj=>⟨cur[j]'(by omega),by simp [World.cell?,hcur,show j<cur.size by omega]⟩
   have hfz:∀ j,w2.frozen? ⟨w1.heap.size,j,none⟩=false:=fun j=>by simp [World.frozen?,hcur]
   obtain ⟨u0,k0⟩:=hcc (i*3) (by omega)
   obtain ⟨u1,k1⟩:=hcc (i*3+1) (by omega)
   obtain ⟨u2,k2⟩:=hcc (i*3+2) (by omega)
   have z0:=hfz (i*3)
   have z1:=hfz (i*3+1)
   have z2:=hfz (i*3+2)
   have HP:=hid_of (HL2.out.put (i:=i) HI.out HX2.out)
   rw [←HAp.out] at HP
   simp only at HP
   clear hb2 hxl hxv hxo hwy cw hcur hcs hcc hfz d0 d1 d2
   go_wp2_with fail
   go_roundg (n-(k+1))
   case measure=>omega
   case rel=>exact ⟨k+1,fun j=>if j=i then ⟨xs,A2,c2⟩ else X j,by omega,rfl,by rw [HA3.out],by congr 1;have:=HI.out;omega,HP,(((HB2.out.setCell (by simp) _).setCell (by simp) _).setCell (by simp) _:Below ..)⟩
  ·have hke:k=n:=by omega
   subst hke
   have e9:(k:Int)-1-(k:Int) = -1:=by omega
   rw [e9]
   obtain ⟨y,hy⟩:∃ y,wr.alloc (.cells #[.slice (some ⟨w1.heap.size,0,none⟩) k k,.int .i64 N] 118)=y:=⟨_,rfl⟩
   have hBy:Below wr.heap.size wr y:=by rw [←hy];go_grown
   have HPl:Hid (PlanV y wr.heap.size w1.heap.size k D X):=⟨by rw [HN.out,←hy];exact heap_alloc_new ..,HL.out.later hBy⟩
   have HBy:Hid (Below w1.heap.size w1 y):=onB HBw.out hBy
   have HSr:Hid (w.heap.size≤wr.heap.size∧w.heap.size≤w1.heap.size):=⟨Nat.le_of_lt hszr,Nat.le_of_lt hsz1⟩
   clear hBy cw
   go_wp2_with fail
   go_returns
   exact ⟨⟨wr.heap.size,w1.heap.size,X,rfl,HSr.out.1,HSr.out.2,HPl.out⟩,onB HB1.out HBy.out⟩
def axV (d:Dm) (ap:Nat) (x:AL):Value:=.agg #[.int .i64 d.solve,.int .i64 ap,.slice x.A d.n x.c]
set_option maxHeartbeats 2000000 in
theorem member_any2 (d:Dm) (S:Nat) (al:AL) (x m:Nat) (w:World) (hS:1≤S) (hd:1≤d.n) (hd2:d.n≤12) (hx:x≤20736) (hm:x / S % d.n=m):Calls Tryz.prog 88 #[axV d S al,.int .i64 x] w fun e w'=>e=.returned (.int .i64 m)∧Below w.heap.size w w':=by
 unfold axV
 obtain ⟨Q,hQ⟩:∃ Q:Nat,x / S=Q:=⟨_,rfl⟩
 rw [hQ] at hm
 have hqi:(x:Int) / (S:Int)=(Q:Int):=by rw [←hQ];exact (Int.natCast_ediv _ _).symm
 have hqt:(x:Int).tdiv (S:Int)=(Q:Int):=by rw [←hQ];rfl
 have hri:(Q:Int).tmod (d.n:Int)=(m:Int):=by rw [←hm];rfl
 have hQ3:Q≤20736:=by rw [←hQ];exact Nat.le_trans (Nat.div_le_self _ _) (by omega)
 have hR3:m<d.n:=by rw [←hm];exact Nat.mod_lt _ (by omega)
 have hwQ:IntKind.i64.wrap (Q:Int)=(Q:Int):=IntWalk.i64_in _ (by omega)
 have hwR:IntKind.i64.wrap (m:Int)=(m:Int):=IntWalk.i64_in _ (by omega)
 have hS0:((S:Int) == 0)=false:=by simp;omega
 have hS0' : ¬ S=0:=by omega
 have hdn0:((d.n:Int) == 0)=false:=by simp;omega
 have hdn0' : ¬ d.n=0:=by omega
 have hdI:(d.n:Int)≤12:=by omega
 obtain ⟨y,hy⟩:∃ y,w.alloc (.cells #[.int .i64 d.solve,.int .i64 S,.slice al.A d.n al.c] 116)=y:=⟨_,rfl⟩
 have hyb:y.heap[w.heap.size]?=some (.cells #[.int .i64 d.solve,.int .i64 S,.slice al.A d.n al.c] 116 (0,0)):=by rw [←hy];exact heap_alloc_new ..
 have y3:y.cell? ⟨w.heap.size,1,none⟩=some (.int .i64 S):=by simp [World.cell?,hyb]
 have y4:y.cell? ⟨w.heap.size,2,none⟩=some (.slice al.A d.n al.c):=by simp [World.cell?,hyb]
 have HBy:Hid (Below w.heap.size w y):=by show Below ..;rw [←hy];go_grown
 clear hyb hQ hm
 go_enter Tryz.func88,Tryz.ntmps88
 go_wp2_with fail
 first | (go_quiet (fail);go_wp2_with fail) | skip
 go_ret
 exact ⟨rfl,by first | exact HBy.out | exact below_drewN HBy.out _⟩
theorem way_leaf {d:Dm} {i:Nat} {x:WL} (h:WayOf d i x):x.lf=leafB d.mem d.n i:=by
 by_cases hf:(d.mem i).formula.size=0
 ·exact (h.1 hf).1
 ·rw [(h.2 hf).1]
  unfold leafB
  rw [decide_eq_false hf]
  rfl
theorem LInv.one {w:World} {g n:Nat} {D:Nat→Dm} {X:Nat→AL} (h:LInv w g n n D X) {i:Nat} (hi:i<n):g<w.heap.size∧(w.cell? ⟨g,i*3,none⟩=some (.int .i64 (D i).solve)∧w.cell? ⟨g,i*3+1,none⟩=some (.int .i64 (stepD D n i))∧w.cell? ⟨g,i*3+2,none⟩=some (.slice (X i).A (D i).n (X i).c))∧AxOne w (D i) (X i):=by
 obtain ⟨cur,h1,-,h3⟩:=h
 obtain ⟨⟨c0,c1,c2⟩,hA⟩:=h3 i (by omega) hi
 exact ⟨(Array.getElem?_eq_some_iff.1 h1).1,⟨by simp [World.cell?,h1,c0],by simp [World.cell?,h1,c1],by simp [World.cell?,h1,c2]⟩,hA⟩
theorem AxOne.way {w:World} {d:Dm} {x:AL} (h:AxOne w d x) {m:Nat} (hm:m<d.n):∃ b,x.A=some ⟨b,0,none⟩∧d.n≤x.c∧b<w.heap.size∧(w.cell? ⟨b,m*5,none⟩=some (.bool (x.xs.getD m noW).lf)∧w.cell? ⟨b,m*5+1,none⟩=some (.slice (x.xs.getD m noW).An (x.xs.getD m noW).nd.length (x.xs.getD m noW).cn)∧w.cell? ⟨b,m*5+2,none⟩=some (.slice (x.xs.getD m noW).As (x.xs.getD m noW).nm.length (x.xs.getD m noW).cs)∧w.cell? ⟨b,m*5+3,none⟩=some (.slice (x.xs.getD m noW).Ai (x.xs.getD m noW).ne.length (x.xs.getD m noW).ci)∧w.cell? ⟨b,m*5+4,none⟩=some (.slice (x.xs.getD m noW).Ag (x.xs.getD m noW).sg.length (x.xs.getD m noW).cg))∧WayT w (x.xs.getD m noW):=by
 obtain ⟨hl,⟨h1,h2,h3⟩,-⟩:=h
 rcases h2 with h2 | ⟨b,cs,fr,h2,h4,h5⟩
 ·rw [h2] at hl;simp at hl;omega
 ·obtain ⟨a0,a1,a2,a3,a4⟩:=h5 m (by omega)
  refine ⟨b,h2,by omega,(Array.getElem?_eq_some_iff.1 h4).1,⟨by simp [World.cell?,h4,a0],by simp [World.cell?,h4,a1],by simp [World.cell?,h4,a2],by simp [World.cell?,h4,a3],by simp [World.cell?,h4,a4]⟩,h3 _ ?_⟩
  rw [List.getD_eq_getElem?_getD,List.getElem?_eq_getElem (by omega)]
  exact List.getElem_mem _
theorem digit_at {D:Nat→Dm} {n x k:Nat} (hk:k<n):((placeL D n x).getD k 0).toNat=x / stepD D n k % (D k).n:=by
 rw [placeL_at hk,Int.toNat_natCast,digit_step hk]
def wayX (w:World) (d:Dm) (S:Nat) (al:AL):World:=(w.alloc (.cells #[.int .i64 d.solve,.int .i64 S,.slice al.A d.n al.c] 116)).alloc (.cells #[.bool false,.slice none 0 0,.slice none 0 0,.slice none 0 0,.slice none 0 0] 130)
theorem wayX_size (w:World) (d:Dm) (S:Nat) (al:AL):(wayX w d S al).heap.size=w.heap.size+2:=by unfold wayX;simp
theorem wayX_below (w:World) (d:Dm) (S:Nat) (al:AL):Below w.heap.size w (wayX w d S al):=by unfold wayX;go_grown
theorem wayX_0 (w:World) (d:Dm) (S:Nat) (al:AL):(wayX w d S al).heap[w.heap.size]?=some (.cells #[.int .i64 d.solve,.int .i64 S,.slice al.A d.n al.c] 116 (0,0)):=by
 unfold wayX
 rw [heap_alloc_old _ _ (by simp)]
 exact heap_alloc_new ..
theorem wayX_1 (w:World) (d:Dm) (S:Nat) (al:AL):(wayX w d S al).heap[w.heap.size+1]?=some (.cells #[.bool false,.slice none 0 0,.slice none 0 0,.slice none 0 0,.slice none 0 0] 130 (0,0)):=by
 unfold wayX
 exact topF1 ..
set_option maxHeartbeats 8000000 in
theorem way_any (d:Dm) (S:Nat) (al:AL) (x m:Nat) (w:World) (hS:1≤S) (hd:1≤d.n) (hd2:d.n≤12) (hx:x≤20736) (hm:x / S % d.n=m) (hA:AxOne w d al):Calls Tryz.prog 57 #[axV d S al,.int .i64 x] w fun e w'=>e=.returned (wayV (al.xs.getD m noW))∧Below w.heap.size w w':=by
 have hmn:m<d.n:=by rw [←hm];exact Nat.mod_lt _ hd
 obtain ⟨b,hAb,hbc,hbl,⟨y0,y1,y2,y3,y4⟩,-⟩:=hA.way hmn
 obtain ⟨z,hz⟩:∃ z,al.xs.getD m noW=z:=⟨_,rfl⟩
 rw [hz] at y0 y1 y2 y3 y4 ⊢
 have HMb:Hid (∀ w',Calls Tryz.prog 88 #[.agg #[.int .i64 d.solve,.int .i64 S,.slice (some ⟨b,0,none⟩) d.n al.c],.int .i64 x] w' fun e w''=>e=.returned (.int .i64 m)∧Below w'.heap.size w' w''):=fun w'=>by
  have h:=member_any2 d S al x m w' hS hd hd2 hx hm
  unfold axV at h
  rw [hAb] at h
  exact h
 have hB0:=wayX_below w d S al
 have hSz:=wayX_size w d S al
 have hk0:=wayX_0 w d S al
 have hk1:=wayX_1 w d S al
 obtain ⟨W,hW⟩:∃ W,wayX w d S al=W:=⟨_,rfl⟩
 rw [hW] at hB0 hSz hk0 hk1
 unfold wayX at hW
 unfold axV
 rw [hAb] at hW hk0 ⊢
 have hblW:b<W.heap.size:=Nat.lt_of_lt_of_le hbl hB0.size
 have hl0:w.heap.size<W.heap.size:=by omega
 have hl1:w.heap.size+1<W.heap.size:=by omega
 have HK:Hid (∀ w',Below W.heap.size W w'→(w'.cell? ⟨w.heap.size,0,none⟩=some (.int .i64 d.solve)∧w'.cell? ⟨w.heap.size,1,none⟩=some (.int .i64 S)∧w'.cell? ⟨w.heap.size,2,none⟩=some (.slice (some ⟨b,0,none⟩) d.n al.c))∧(w'.cell? ⟨b,m*5,none⟩=some (.bool z.lf)∧w'.cell? ⟨b,m*5+1,none⟩=some (.slice z.An z.nd.length z.cn)∧w'.cell? ⟨b,m*5+2,none⟩=some (.slice z.As z.nm.length z.cs)∧w'.cell? ⟨b,m*5+3,none⟩=some (.slice z.Ai z.ne.length z.ci)∧w'.cell? ⟨b,m*5+4,none⟩=some (.slice z.Ag z.sg.length z.cg))∧w'.heap[w.heap.size+1]?=some (.cells #[.bool false,.slice none 0 0,.slice none 0 0,.slice none 0 0,.slice none 0 0] 130 (0,0))∧W.heap.size≤w'.heap.size):=fun w' hB=>by
  have k0:=(hB.block w.heap.size hl0).trans hk0
  have hw:=onB hB0 hB
  exact ⟨⟨by simp [World.cell?,k0],by simp [World.cell?,k0],by simp [World.cell?,k0]⟩,⟨(hw.cell (p:=⟨b,m*5,none⟩) hbl).trans y0,(hw.cell (p:=⟨b,m*5+1,none⟩) hbl).trans y1,(hw.cell (p:=⟨b,m*5+2,none⟩) hbl).trans y2,(hw.cell (p:=⟨b,m*5+3,none⟩) hbl).trans y3,(hw.cell (p:=⟨b,m*5+4,none⟩) hbl).trans y4⟩,(hB.block _ hl1).trans hk1,hB.size⟩
 obtain ⟨⟨a0,a1,a2⟩,-,hr0,-⟩:=HK.out W (Below.refl _ _)
 have HB0:Hid (Below w.heap.size w W):=hB0
 have hmI:(m:Int)<(d.n:Int):=by omega
 have hdI:(d.n:Int)≤12:=by omega
 clear hB0 hSz hk0 hk1 hA hz hAb hm hx hS y0 y1 y2 y3 y4 hr0
 go_enter Tryz.func57,Tryz.ntmps57
 go_wp2_with fail
 go_region_law ((go_simp;refine (HMb.out _).mono ?_;rintro e w3 ⟨rfl,hb3⟩;have hN3:=onB (W0:=W) (by go_grown) hb3;obtain ⟨⟨n0,n1,n2⟩,⟨u0,u1,u2,u3,u4⟩,hr,hz3⟩:=HK.out _ hN3;obtain ⟨hg,⟨r0,r1,r2,r3,r4⟩,hfr⟩:=way_block hr;have f0:=hfr 0;have f1:=hfr 1;have f2:=hfr 2;have f3:=hfr 3;have f4:=hfr 4;have HN3:Hid (Below W.heap.size W _):=hN3;clear hb3 hfr hr))
 all_goals clear hN3
 all_goals go_wp2_with fail
 all_goals refine bodyPost_ret (v:=wayV z) (by simp [results,Tryz.results57,go_sem,r0,r1,r2,r3,r4,wayV]) rfl ⟨rfl,?_⟩
 all_goals first
  | exact (((((onB HB0.out HN3.out).setCell (by simp) _).setCell (by simp) _).setCell (by simp) _).setCell (by simp) _).setCell (by simp) _
  | exact below_drewN ((((((onB HB0.out HN3.out).setCell (by simp) _).setCell (by simp) _).setCell (by simp) _).setCell (by simp) _).setCell (by simp) _) 1
theorem field_way0 (z:WL) (w:World):(Instr.field 130 (wayV z) 0).run Tryz.prog w=.ok (.bool z.lf) w:=by kernel_rfl
theorem field_way3 (z:WL) (w:World):(Instr.field 130 (wayV z) 3).run Tryz.prog w=.ok (.slice z.Ai z.ne.length z.ci) w:=by kernel_rfl
set_option maxHeartbeats 4000000 in
theorem by_any2 (q g n:Nat) (D:Nat→Dm) (X:Nat→AL) (x:Nat) (w:World) (hE:(allErr D n).2.2=0) (hx:x<prodN D n) (hA:PlanV w q g n D X):Calls Tryz.prog 55 #[.pointer (some ⟨q,0,none⟩),.int .i64 x] w fun e w'=>e=.returned (.int .i64 (byTo D (placeL D n x) n))∧Below w.heap.size w w':=by
 obtain ⟨hn1,hn4,hp3,hd⟩:=allErr_some hE
 have hn':(n:Int)≤4:=by omega
 have HD:Hid (∀ i,i<n→1≤(D i).n∧(D i).n≤12):=hd
 have HA:Hid (PlanV w q g n D X):=hA
 obtain ⟨hq,q0,q1⟩:=hA.cells
 obtain ⟨L,hL⟩:∃ L,placeL D n x=L:=⟨_,rfl⟩
 have HDg:Hid (∀ k,k<n→(L.getD k 0).toNat=x / stepD D n k % (D k).n):=fun k hk=>by rw [←hL];exact digit_at hk
 rw [hL]
 have hxs:x≤20736:=by omega
 clear hL hA hd
 go_enter Tryz.func55,Tryz.ntmps55
 go_wp2_with fail
 clear q0 q1
 go_loopg [5,13] n (fun gg s5 s13 wr => ∃ (k:Nat),k≤n∧gg=n-k∧s5=.int .i64 (byTo D L k)∧s13=.int .i64 k∧Below w.heap.size w wr)
 case atStart=>exact ⟨0,Nat.zero_le _,rfl,rfl,rfl,Below.refl _ _⟩
 case round =>
  obtain ⟨k,hk,rfl,rfl,rfl,hBw⟩:=hrel
  have HBw:Hid (Below w.heap.size w wr):=hBw
  by_cases hlt:k<n
  ·have hki:(k:Int)<(n:Int):=by omega
   have hAr:=HA.out.later hBw
   obtain ⟨hg,⟨c0,c1,c2⟩,hOne⟩:=hAr.2.one hlt
   obtain ⟨m,hm⟩:∃ m,x / stepD D n k % (D k).n=m:=⟨_,rfl⟩
   have hd1:=(HD.out k hlt).1
   have hmn:m<(D k).n:=by rw [←hm];exact Nat.mod_lt _ hd1
   have hlf:=way_leaf (hOne.2.2 m hmn)
   have hdg:(L.getD k 0).toNat=m:=by rw [HDg.out k hlt,hm]
   have HWy:Hid (∀ w',Below wr.heap.size wr w'→Calls Tryz.prog 57 #[.agg #[.int .i64 (D k).solve,.int .i64 (stepD D n k:Nat),.slice (X k).A (D k).n (X k).c],.int .i64 x] w' fun e w''=>e=.returned (wayV ((X k).xs.getD m noW))∧Below w'.heap.size w' w''):=fun w' hB=>way_any (D k) (stepD D n k) (X k) x m w' (stepD_pos (fun i hi=>(HD.out i hi).1) hlt) hd1 (HD.out k hlt).2 hxs hm (hOne.later hB)
   have HB:Hid (∀ h,leafB (D k).mem (D k).n m=h→(h=true→byTo D L (k+1)=byTo D L k)∧(h=false→(byTo D L k<0→byTo D L (k+1)=(k:Int))∧∀ j:Nat,byTo D L k=(j:Int)→byTo D L (k+1)=if (D j).solve<(D k).solve then (k:Int) else (j:Int))):=fun h e=>by
    refine ⟨fun e2=>?_,fun e2=>⟨fun e3=>?_,fun j hj=>?_⟩⟩
    ·refine by_miss fun ⟨h1,_⟩=>?_
     rw [hdg,e,e2] at h1
     cases h1
    ·exact by_hit (by rw [hdg,e,e2]) (Or.inl e3)
    ·by_cases hs:(D j).solve<(D k).solve
     ·rw [if_pos hs]
      exact by_hit (by rw [hdg,e,e2]) (Or.inr (by rw [hj,Int.toNat_natCast];exact hs))
     ·rw [if_neg hs,←hj]
      refine by_miss fun ⟨_,h2⟩=>?_
      rw [hj,Int.toNat_natCast] at h2
      omega
   obtain ⟨lf,hlf2⟩:∃ lf,leafB (D k).mem (D k).n m=lf:=⟨_,rfl⟩
   have HB2:=hid_of (HB.out lf hlf2)
   have hfl:∀ w',(Instr.field 130 (wayV ((X k).xs.getD m noW)) 0).run Tryz.prog w'=.ok (.bool lf) w':=fun w'=>by rw [field_way0,hlf,hlf2]
   have HSv:Hid (∀ w',Below wr.heap.size wr w'→w'.cell? ⟨q,0,none⟩=some (.slice (some ⟨g,0,none⟩) n n)∧q<w'.heap.size∧g<w'.heap.size∧∀ j,j<n→w'.cell? ⟨g,j*3,none⟩=some (.int .i64 (D j).solve)):=fun w' hB=>⟨(hAr.later hB).cells.2.1,(hAr.later hB).cells.1,Nat.lt_of_lt_of_le hg hB.size,fun j hj=>((hAr.later hB).2.one hj).2.1.1⟩
   have HBi:=hid_of (by_in D L k)
   obtain ⟨v,hv⟩:∃ v,wr.alloc (.cells #[.int .i64 (D k).solve,.int .i64 (stepD D n k:Nat),.slice (X k).A (D k).n (X k).c] 116)=v:=⟨_,rfl⟩
   have hvb:v.heap[wr.heap.size]?=some (.cells #[.int .i64 (D k).solve,.int .i64 (stepD D n k:Nat),.slice (X k).A (D k).n (X k).c] 116 (0,0)):=by rw [←hv];exact heap_alloc_new ..
   have hBv:Below wr.heap.size wr v:=by rw [←hv];go_grown
   have HBv:Hid (Below wr.heap.size wr v):=hBv
   have v0:v.cell? ⟨wr.heap.size,0,none⟩=some (.int .i64 (D k).solve):=by simp [World.cell?,hvb]
   have v1:v.cell? ⟨wr.heap.size,1,none⟩=some (.int .i64 (stepD D n k:Nat)):=by simp [World.cell?,hvb]
   have v2:v.cell? ⟨wr.heap.size,2,none⟩=some (.slice (X k).A (D k).n (X k).c):=by simp [World.cell?,hvb]
   have hvs:wr.heap.size<v.heap.size:=(Array.getElem?_eq_some_iff.1 hvb).1
   have hwy:=HWy.out v hBv
   generalize wayV ((X k).xs.getD m noW)=wv at hwy hfl
   clear hAr hOne hm hmn hlf hdg hlf2 hvb hBv hBw HWy HB
   go_wp2_with fail
   refine hwy.mono ?_
   rintro e w3 ⟨rfl,hb3⟩
   have HB3:Hid (Below w.heap.size w w3):=onB HBw.out (onB HBv.out hb3)
   have hBr3:=onB HBv.out hb3
   obtain ⟨p0,hq3,hg3,hcj⟩:=HSv.out w3 hBr3
   have t1:w3.cell? ⟨wr.heap.size,0,none⟩=some (.int .i64 (D k).solve):=(hb3.cell (p:=⟨wr.heap.size,0,none⟩) hvs).trans v0
   have ht3:wr.heap.size<w3.heap.size:=Nat.lt_of_lt_of_le hvs hb3.size
   clear hwy v0 v1 v2 hv c0 c1 c2
   cases lf
   ·rcases HBi.out with hneg | ⟨j,hj,hjk⟩
    ·have HNx:Hid (byTo D L (k+1)=(k:Int)):=(HB2.out.2 rfl).1 (by omega)
     rw [hneg]
     clear hneg hb3 hBr3 hcj
     go_wp2_with fail
     go_quiet (fail)
     go_wp2_with fail
     go_roundg (n-(k+1))
     case measure=>omega
     case rel=>exact ⟨k+1,by omega,rfl,by rw [HNx.out],by go_num,below_drewN HB3.out _⟩
    ·have HNx:Hid (byTo D L (k+1)=if (D j).solve<(D k).solve then (k:Int) else (j:Int)):=(HB2.out.2 rfl).2 j hj
     have cj3:=hcj j (by omega)
     have hjn:(j:Int)<(n:Int):=by omega
     have hj0:((j:Int) == -1)=false:=by simp
     rw [hj]
     clear hj hb3 hBr3 hcj
     by_cases hs:(D j).solve<(D k).solve
     ·rw [if_pos hs] at HNx
      have hsb:decide ((D j).solve<(D k).solve)=true:=decide_eq_true hs
      go_wp2_with fail
      go_quiet (fail)
      go_wp2_with fail
      go_roundg (n-(k+1))
      case measure=>omega
      case rel=>exact ⟨k+1,by omega,rfl,by rw [HNx.out],by go_num,below_drewN HB3.out _⟩
     ·rw [if_neg hs] at HNx
      have hsb:decide ((D j).solve<(D k).solve)=false:=decide_eq_false hs
      go_wp2_with fail
      go_quiet (fail)
      go_wp2_with fail
      go_roundg (n-(k+1))
      case measure=>omega
      case rel=>exact ⟨k+1,by omega,rfl,by rw [HNx.out],by go_num,below_drewN HB3.out _⟩
   ·have HNx:Hid (byTo D L (k+1)=byTo D L k):=HB2.out.1 rfl
    generalize byTo D L k=bk at HNx
    clear hb3 hBr3 hcj
    go_wp2_with fail
    go_roundg (n-(k+1))
    case measure=>omega
    case rel=>exact ⟨k+1,by omega,rfl,by rw [HNx.out],by go_num,HB3.out⟩
  ·have hke:k=n:=by omega
   subst hke
   clear hBw
   go_wp2_with fail
   go_ret
   exact ⟨rfl,HBw.out⟩
end Go.Proofs.YtfgegmpoejilnaaGreatDoor
