/-
  Grids: cells in rows, as plain data and in memory; what is wrong with one; one turned.
-/
import Derived.Lib.AppendZerosOnto
import Derived.Laws.AppendOwnNone
import Derived.Test.YtnegjdcedhnjdaaGreatDoorJDAS
import Derived.Test.YtnegjdcedhnjdaaGreatDoorJDAT
namespace Go.Proofs.YtnegjdcedhnjdaaGreatDoor
open Go.ChangeShapes Go.WideShapes Go.ChangeAt Go.RowKit
set_option maxRecDepth 20000
def tab (f:Nat→Nat→Int×Int) (R C:Nat):List (List (Int×Int)):=(List.range R).map fun r=>(List.range C).map (f r)
theorem tab_len (f:Nat→Nat→Int×Int) (R C:Nat):(tab f R C).length=R:=by simp [tab]
theorem tab_row (f:Nat→Nat→Int×Int) {R C r:Nat} (h:r<R):(tab f R C).getD r []=(List.range C).map (f r):=by simp [tab,List.getD,h]
structure CsL where
 L:List (Int×Int)
 A:Option Addr
 c:Nat
def noCs:CsL:=⟨[],none,0⟩
def lZ (zz:List CsL):List (List (Int×Int)):=zz.map CsL.L
theorem lZ_len (zz:List CsL):(lZ zz).length=zz.length:=by simp [lZ]
theorem lZ_at (zz:List CsL) (k:Nat):(lZ zz).getD k []=(zz.getD k noCs).L:=by
 rw [List.getD_eq_getElem?_getD,List.getD_eq_getElem?_getD,lZ,List.getElem?_map]
 cases zz[k]? <;> rfl
def CssV (w:World) (A:Option Addr) (cap:Nat) (zz:List CsL):Prop:=zz.length≤cap∧cap≤9223372036854775807∧(zz=[]∨∃ b o,A=some ⟨b,o,none⟩∧b<w.heap.size∧∀ k,k<zz.length→w.cell? ⟨b,o+k,none⟩=some (.slice (zz.getD k noCs).A (zz.getD k noCs).L.length (zz.getD k noCs).c)∧CelV w (zz.getD k noCs).A (zz.getD k noCs).c (zz.getD k noCs).L)
theorem CssV.nil (w:World) (A:Option Addr) (cap:Nat) (h:cap≤9223372036854775807):CssV w A cap []:=⟨Nat.zero_le _,h,Or.inl rfl⟩
def CssN (w:World) (B:Nat) (A:Option Addr) (cap:Nat) (zz:List CsL):Prop := ∀ w9:World,w.heap.size≤w9.heap.size→(∀ b,B≤b→b<w.heap.size→w9.heap[b]?=w.heap[b]?)→CssV w9 A cap zz
def TabS (w:World) (g0 R C r B:Nat) (f:Nat→Nat→Int×Int):Prop := ∃ gs:Nat→Nat,ValB w g0 R 46 (fun i=>if i<r then .slice (some ⟨gs i,0,none⟩) C C else .slice none 0 0)∧B≤g0∧∀ i,i<r→B≤gs i∧CelB w (gs i) ((List.range C).map (f i))
def rowTo (f:Nat→Int×Int) (C c:Nat):List (Int×Int):=(List.range C).map fun j=>if j<c then f j else (0,0)
theorem rowTo_len (f:Nat→Int×Int) (C c:Nat):(rowTo f C c).length=C:=by simp [rowTo]
theorem rowTo_zero (f:Nat→Int×Int) (C:Nat):rowTo f C 0=List.replicate C (0,0):=by
 refine List.ext_getElem (by simp [rowTo]) fun i h1 h2=>?_
 simp [rowTo]
theorem rowTo_all (f:Nat→Int×Int) (C:Nat):rowTo f C C=(List.range C).map f:=List.map_congr_left fun _ hi=>if_pos (List.mem_range.1 hi)
theorem rowTo_set (f:Nat→Int×Int) {C c:Nat}:(rowTo f C c).set c (f c)=rowTo f C (c+1):=by
 refine List.ext_getElem (by simp [rowTo]) fun i h1 h2=>?_
 rw [List.getElem_set]
 by_cases e:c=i
 ·subst e
  simp [rowTo]
 ·rw [if_neg e]
  simp only [rowTo,List.getElem_map,List.getElem_range]
  by_cases h3:i<c
  ·rw [if_pos h3,if_pos (by omega)]
  ·rw [if_neg h3,if_neg (by omega)]
def TabI (w:World) (g0 gr R C r c B:Nat) (f:Nat→Nat→Int×Int):Prop := ∃ gs:Nat→Nat,ValB w g0 R 46 (fun i=>if i<r then .slice (some ⟨gs i,0,none⟩) C C else if i=r then .slice (some ⟨gr,0,none⟩) C C else .slice none 0 0)∧B≤g0∧B≤gr∧(∀ i,i<r→B≤gs i∧gs i<gr∧CelB w (gs i) ((List.range C).map (f i)))∧CelB w gr (rowTo (f r) C c)
theorem cel_ne_row:(48:Nat)≠46:=by decide
theorem CelB.off {w:World} {g n b:Nat} {L:List (Int×Int)} {f:Nat→Value} (h:CelB w b L) (hV:ValB w g n 46 f):b≠g:=by
 obtain ⟨cur,h1,-⟩:=h
 exact hV.off h1 cel_ne_row
section
variable {w w':World} {g0 gr R C r c B:Nat} {f:Nat→Nat→Int×Int}
theorem TabS.start (w:World) (R C:Nat) (f:Nat→Nat→Int×Int):TabS (w.alloc (.cells (madeCells #[.slice none 0 0] R) 46)) w.heap.size R C 0 w.heap.size f :=
 ⟨fun _=>0,by simpa using ValB.made w R 46 (.slice none 0 0),Nat.le_refl _,fun _ hi=>absurd hi (Nat.not_lt_zero _)⟩
theorem TabS.next (h:TabS w g0 R C r B f) (hB:B≤w.heap.size):TabI ((w.alloc (.cells (madeCells #[.int .i64 0,.int .i64 0] (C*2)) 48)).setCell ⟨g0,r,none⟩ (.slice (some ⟨w.heap.size,0,none⟩) C C)) g0 w.heap.size R C r 0 B f:=by
 obtain ⟨gs,h1,h2,h3⟩:=h
 have hne:∀ b,b<w.heap.size→(w.alloc (.cells (madeCells #[.int .i64 0,.int .i64 0] (C*2)) 48)).heap[b]?=w.heap[b]?:=fun b hb=>Below.heap_alloc _ _ _ hb
 have k1:=h1.same (hne _ h1.lt)
 refine ⟨gs,k1.set fun j hj=>?_,h2,hB,fun i hi=>⟨(h3 i hi).1,(h3 i hi).2.lt,?_⟩,?_⟩
 ·by_cases e1:j<r
  ·rw [if_pos e1,if_neg (by omega),if_pos e1]
  ·rw [if_neg e1,if_neg e1]
 ·have k2:=(h3 i hi).2.same (hne _ (h3 i hi).2.lt)
  exact k2.same (setCell_off _ _ _ _ _ (k2.off k1))
 ·have k2:=celB_made w C
  rw [rowTo_zero]
  exact k2.same (setCell_off _ _ _ _ _ (k2.off k1))
theorem TabI.cells (h:TabI w g0 gr R C r c B f) (hr:r<R) (hc:c<C):w.cell? ⟨g0,r,none⟩=some (.slice (some ⟨gr,0,none⟩) C C)∧g0<w.heap.size∧gr<w.heap.size∧(∃ v,w.cell? ⟨gr,c*2,none⟩=some v)∧(∃ v,w.cell? ⟨gr,c*2+1,none⟩=some v)∧w.frozen? ⟨gr,c*2,none⟩=false∧w.frozen? ⟨gr,c*2+1,none⟩=false:=by
 obtain ⟨gs,h1,h2,h3,h4,h5⟩:=h
 have k:=h1.cell hr
 rw [if_neg (Nat.lt_irrefl _),if_pos rfl] at k
 have k2:=h5.at (k:=c) (by rw [rowTo_len];exact hc)
 exact ⟨k,h1.lt,h5.lt,⟨_,k2.1⟩,⟨_,k2.2⟩,h5.frozen _,h5.frozen _⟩
theorem TabI.keep (h:TabI w g0 gr R C r c B f) (hk:∀ b,b<w.heap.size→B≤b→w'.heap[b]?=w.heap[b]?):TabI w' g0 gr R C r c B f:=by
 obtain ⟨gs,h1,h2,h3,h4,h5⟩:=h
 exact ⟨gs,h1.same (hk _ h1.lt h2),h2,h3,fun i hi=>⟨(h4 i hi).1,(h4 i hi).2.1,(h4 i hi).2.2.same (hk _ (h4 i hi).2.2.lt (h4 i hi).1)⟩,h5.same (hk _ h5.lt h3)⟩
theorem TabI.push (h:TabI w g0 gr R C r c B f) (hc:c<C):TabI ((w.setCell ⟨gr,c*2,none⟩ (.int .i64 (f r c).1)).setCell ⟨gr,c*2+1,none⟩ (.int .i64 (f r c).2)) g0 gr R C r (c+1) B f:=by
 obtain ⟨gs,h1,h2,h3,h4,h5⟩:=h
 have ho:∀ b,b≠gr→((w.setCell ⟨gr,c*2,none⟩ (.int .i64 (f r c).1)).setCell ⟨gr,c*2+1,none⟩ (.int .i64 (f r c).2)).heap[b]?=w.heap[b]?:=fun b hb=>(setCell_off _ _ _ _ _ hb).trans (setCell_off _ _ _ _ _ hb)
 refine ⟨gs,h1.same (ho _ fun e=>(h5.off h1) e.symm),h2,h3,fun i hi=>⟨(h4 i hi).1,(h4 i hi).2.1,(h4 i hi).2.2.same (ho _ (Nat.ne_of_lt (h4 i hi).2.1))⟩,?_⟩
 have k:=h5.set (x:=c) (by rw [rowTo_len];exact hc) (f r c).1 (f r c).2
 rw [rowTo_set] at k
 exact k
theorem TabI.done (h:TabI w g0 gr R C r C B f):TabS w g0 R C (r+1) B f:=by
 obtain ⟨gs,h1,h2,h3,h4,h5⟩:=h
 rw [rowTo_all] at h5
 refine ⟨fun i=>if i<r then gs i else gr,?_,h2,fun i hi=>?_⟩
 ·have e:(fun i:Nat=>if i<r+1 then Value.slice (some ⟨if i<r then gs i else gr,0,none⟩) C C else .slice none 0 0)=fun i=>if i<r then .slice (some ⟨gs i,0,none⟩) C C else if i=r then .slice (some ⟨gr,0,none⟩) C C else .slice none 0 0:=by
   funext i
   by_cases e1:i<r
   ·rw [if_pos e1,if_pos e1,if_pos (by omega)]
   ·by_cases e2:i=r
    ·rw [if_neg e1,if_neg e1,if_pos e2,if_pos (by omega)]
    ·rw [if_neg e1,if_neg e1,if_neg e2,if_neg (by omega)]
  rw [e]
  exact h1
 ·by_cases e1:i<r
  ·simp only [if_pos e1]
   exact ⟨(h4 i e1).1,(h4 i e1).2.2⟩
  ·have e2:i=r:=by omega
   subst e2
   simp only [if_neg e1]
   exact ⟨h3,h5⟩
theorem TabS.rows (h:TabS w g0 R C R B f) (hR:R≤1048576) (hC:C≤1048576):∃ zz,CssN w B (some ⟨g0,0,none⟩) R zz∧zz.length=R∧lZ zz=tab f R C:=by
 obtain ⟨gs,h1,h2,h3⟩:=h
 have hl:((List.range R).map fun i=>(⟨(List.range C).map (f i),some ⟨gs i,0,none⟩,C⟩:CsL)).length=R:=by simp
 refine ⟨(List.range R).map fun i=>⟨(List.range C).map (f i),some ⟨gs i,0,none⟩,C⟩,fun w9 hs hb=>⟨by rw [hl];exact Nat.le_refl _,by omega,Or.inr ⟨g0,0,rfl,Nat.lt_of_lt_of_le h1.lt hs,fun k hk=>?_⟩⟩,hl,by simp [lZ,tab]⟩
 rw [hl] at hk
 have e:((List.range R).map fun i=>(⟨(List.range C).map (f i),some ⟨gs i,0,none⟩,C⟩:CsL)).getD k noCs=⟨(List.range C).map (f k),some ⟨gs k,0,none⟩,C⟩:=by simp [List.getD,hk]
 rw [e]
 have k1:=(h1.same (hb _ h2 h1.lt)).cell hk
 rw [if_pos hk] at k1
 refine ⟨by simpa using k1,by simp,by show C≤_;omega,?_⟩
 exact Or.inr ⟨_,_,rfl,((h3 k hk).2.same (hb _ (h3 k hk).1 (h3 k hk).2.lt)).celAt⟩
end
theorem Tryz.infoCRow:(Tryz.prog.info? 46).map (fun i=>(i.zero,i.size,i.bytes))=some (some (.slice none 0 0),1,24):=by kernel_rfl
theorem run_make_big (n:Nat) (hn:n≤1048576) (w:World):(Instr.makeSlice 46 (.int .i64 (n:Int)) (.int .i64 (n:Int))).run Tryz.prog w=.ok (.slice (some ⟨w.heap.size,0,none⟩) n n) (w.alloc (.cells (madeCells #[.int .i64 0,.int .i64 0] (n*2)) 48)):=by
 obtain ⟨i0,hi0,hz0,hz1,hz2⟩:=info_parts Tryz.infoCe
 have hr:=run_make (P:=Tryz.prog) w 46 48 i0 _ Tryz.underlying46 hi0 hz0 .i64 .i64 n n (by omega) (Int.le_refl _) (by rw [hz2];omega) (by omega)
 simp only [Int.toNat_natCast,hz1] at hr
 exact hr
end Go.Proofs.YtnegjdcedhnjdaaGreatDoor
namespace Go.Proofs.YtnegjdcedhnjdaaGreatDoor
open Go Go.ChangeShapes Go.WideShapes Go.ChangeAt Go.RowKit
set_option maxRecDepth 20000
set_option maxHeartbeats 4000000 in
theorem grow_any (n:Nat) (w:World) (h1:1≤n) (h8:n≤8):Calls Tryz.prog 96 #[.slice none 0 0,.int .i64 n] w fun e w'=>(∃ v,e=.returned v∧w'.ownsRow w.heap.size 3 1 v 0 [])∧Below w.heap.size w w':=by
 obtain ⟨i0,hi0,hz0,hz1,hz2⟩:=info_parts Tryz.infoIntP
 have hn0 : ¬ ((n:Int)<0):=by omega
 have hn1:(n:Int) > 0:=by omega
 have hn8:(n:Int)≤8:=by omega
 have hold:(Builtin.firstCells i0.size 0 (.slice none 0 0)).run Tryz.prog w.drew=.ok (([]:List Value).toArray) w.drew:=by rw [hz1];exact run_firstCells_none w.drew 1 0 0 0
 have hrz:∀ ty,(Builtin.append_ #[27,3] ty #[.slice none 0 0,.int .i64 (n:Int)]).run Tryz.prog w=_:=fun ty=>Lib.run_append_grow_zeros w 27 3 ty 3 i0 (.int .i64 0) .i64 .i64 Tryz.underlying27 Tryz.underlying3 hi0 hz0 none 0 0 [] hold n (by omega) (by omega) (by omega) (by omega) (by rw [hz2];omega) (by rw [hz2,Nat.zero_add];exact growslice_fits (by omega) (by omega))
 rw [Nat.zero_add] at hrz
 have hGn:n≤grownCap w n 0 3:=grownCap_ge w _ _ _
 have hGm:=grownCap_le_maxLen w n 0 3 (by unfold maxLen;omega)
 obtain ⟨G,hG⟩:∃ G,G=grownCap w n 0 3:=⟨_,rfl⟩
 rw [←hG] at hrz hGn hGm
 have hG63:G≤9223372036854775807:=by unfold maxLen at hGm;omega
 obtain ⟨cs,hcs⟩:∃ cs,cs=([]:List Value).toArray ++ Builtin.zeroCells (Value.int .i64 0).cells n ++ Builtin.zeroCells (Value.int .i64 0).cells (G-n):=⟨_,rfl⟩
 have hsz:cs.size=G:=by rw [hcs];simp [Builtin.zeroCells,Value.cells];omega
 rw [←hcs] at hrz
 have HO:Hid ((w.drew.alloc (.cells cs 3)).ownsRow w.heap.size 3 1 (.slice (some ⟨w.heap.size,0,none⟩) 0 G) 0 []):=⟨rfl,Or.inr ⟨w.heap.size,G,cs,rfl,Nat.le_refl _,heap_alloc_new w.drew _,Nat.zero_le _,hGm,by rw [hsz];omega,by simp⟩⟩
 have HB:Hid (Below w.heap.size w (w.drew.alloc (.cells cs 3))):=by show Below _ _ _;go_grown
 clear hold hG hcs hsz hGm
 go_enter Tryz.func96,Tryz.ntmps96
 go_wp2_with (at_builtin;refine Lib.wpList_append_run _ rfl _ _ _ _ rfl _ _ rfl rfl _ _ (hrz _) ?_)
 all_goals go_ret
 all_goals exact ⟨⟨_,rfl,HO.out⟩,HB.out⟩
def HeadV (w:World) (A:Option Addr) (c:Nat) (L:List Int):Prop:=(A=none∧c=0∧L=[])∨(L≠[]∧PlTy w A c L)
theorem HeadV.pl {w:World} {A:Option Addr} {c:Nat} {L:List Int} (h:HeadV w A c L):PlAt w A c L:=by
 rcases h with ⟨rfl,rfl,rfl⟩ | ⟨-,h⟩
 ·exact PlAt.nil _ _ _
 ·exact h.pl
theorem HeadV.later {w w':World} {A:Option Addr} {c:Nat} {L:List Int} (h:HeadV w A c L) (hB:Below w.heap.size w w'):HeadV w' A c L:=by
 rcases h with h | ⟨h1,h⟩
 ·exact Or.inl h
 ·exact Or.inr ⟨h1,h.later hB⟩
theorem HeadV.cells {w:World} {b o c:Nat} {L:List Int} (h:HeadV w (some ⟨b,o,none⟩) c L):∀ j u,(L.map (Value.int .i64))[j]?=some u→w.cell? ((⟨b,o,none⟩:Addr).add j)=some u:=by
 intro j u hj
 obtain ⟨-,h0 | ⟨b',o',h0,-,hcell⟩⟩:=h.pl
 ·subst h0;simp at hj
 ·cases h0
  have hlt:j<L.length:=by have:=(List.getElem?_eq_some_iff.1 hj).1;simpa using this
  rw [plain_add,hcell j hlt]
  simp only [List.getElem?_map,List.getElem?_eq_getElem hlt,Option.map_some,Option.some.injEq] at hj
  rw [←hj,List.getD_eq_getElem?_getD,List.getElem?_eq_getElem hlt]
  rfl
theorem one_at {w:World} {q:Nat} {x:Value} (h:w.cell? ⟨q,0,none⟩=some x):∀ j u,[x][j]?=some u→w.cell? ((⟨q,0,none⟩:Addr).add j)=some u:=by
 intro j u hj
 cases j with
 | zero =>
  simp at hj
  rw [plain_add,←hj]
  exact h
 | succ j=>simp at hj
set_option maxHeartbeats 8000000 in
theorem concat_any (b bk:Nat) (Ah:Option Addr) (ch:Nat) (h:List Int) (k:Int) (w:World) (h3:h.length≤3) (hH:HeadV w Ah ch h) (c0:w.cell? ⟨b,0,none⟩=some (.slice Ah h.length ch)) (c1:w.cell? ⟨b,1,none⟩=some (.slice (some ⟨bk,0,none⟩) 1 1)) (ck:w.cell? ⟨bk,0,none⟩=some (.int .i64 k)) :
  Calls Tryz.prog 63 #[.slice (some ⟨b,0,none⟩) 2 2] w fun e w'=>(∃ A' c',e=.returned (.slice A' (h ++ [k]).length c')∧PlTy w' A' c' (h ++ [k]))∧Below w.heap.size w w':=by
 obtain ⟨i0,hi0,hz0,hz1,hz2⟩:=info_parts Tryz.infoIntP
 have HH:Hid (HeadV w Ah ch h):=hH
 have zb:=World.block_lt_of_cell? _ _ c0
 have zk:=World.block_lt_of_cell? _ _ ck
 have HCells:Hid (w.cell? ⟨b,0,none⟩=some (.slice Ah h.length ch)∧w.cell? ⟨b,1,none⟩=some (.slice (some ⟨bk,0,none⟩) 1 1)∧w.cell? ⟨bk,0,none⟩=some (.int .i64 k)):=⟨c0,c1,ck⟩
 obtain ⟨nh,hnh⟩:∃ nh,h.length=nh:=⟨_,rfl⟩
 have HNH:Hid (h.length=nh):=hnh
 have hgr:=grow_any (nh+1) w (by omega) (by omega)
 have hnh3:(nh:Int)≤3:=by omega
 have hcast:((nh+1:Nat):Int)=(nh:Int)+1:=by omega
 rw [hcast] at hgr
 rw [hnh] at c0
 have HF:Hid (∀ (w':World) (v:Value),w'.ownsRow w.heap.size 3 1 v (nh+1) ((h ++ [k]).map (Value.int .i64))→∃ A' c',v=.slice A' (h ++ [k]).length c'∧PlTy w' A' c' (h ++ [k])):=fun w' v hv=>plty_own (by rw [List.length_append,HNH.out];exact hv)
 clear hH hnh hcast
 go_enter Tryz.func63,Tryz.ntmps63
 go_wp2_with fail
 refine wp_loop_rounds 3 ?_
 rw [rounds_succ]
 go_wp2_with fail
 rw [rounds_succ]
 go_wp2_with fail
 rw [rounds_succ]
 go_wp2_with fail
 refine hgr.mono ?_
 rintro e w1 ⟨⟨v,rfl,hown⟩,hb1⟩
 have HB1:Hid (Below w.heap.size w w1):=hb1
 have HO1:Hid (w1.ownsRow w.heap.size 3 1 v 0 []):=hown
 have x0:=(hb1.cell (p:=⟨b,0,none⟩) zb).trans HCells.out.1
 have x1:=(hb1.cell (p:=⟨b,1,none⟩) zb).trans HCells.out.2.1
 rw [HNH.out] at x0
 clear hb1 hown hgr c0 c1 ck
 go_wp2_with fail
 refine wp_loop_rounds 3 ?_
 rw [rounds_succ]
 cases Ah with
 | none =>
  have h0:h=[]∧ch=0:=by
   rcases HH.out with ⟨-,h2,h1⟩ | ⟨h1,h2⟩
   ·exact ⟨h1,h2⟩
   ·obtain ⟨-,h4 | ⟨b',o',cs,fr,h4,-⟩⟩:=h2
    ·exact absurd h4 h1
    ·cases h4
  obtain ⟨rfl,rfl⟩:=h0
  have hn0:nh=0:=by have:=HNH.out;simp at this;exact this.symm
  subst hn0
  go_wp2_with (at_builtin;refine wpList_append_own_none rfl _ _ 27 rfl w.heap.size 3 i0 1 Tryz.underlying27 hi0 _ 0 _ rfl HO1.out rfl ?_)
  rw [rounds_succ]
  have ck1:=(HB1.out.cell (p:=⟨bk,0,none⟩) zk).trans HCells.out.2.2
  have hsz:=HB1.out.size
  clear x0
  go_wp2_with (at_builtin;refine wpList_append_own _ rfl _ _ 27 rfl w.heap.size 3 i0 (.int .i64 0) 1 8 Tryz.underlying27 hi0 hz0 hz1 hz2 rfl (by decide) _ _ _ rfl HO1.out ⟨bk,0,none⟩ 1 1 [.int .i64 k] rfl rfl ?qc2 one_one ?qc4 ?qc5 ?qc6 ?_)
  case qc2=>exact one_at ck1
  case qc4=>simp only [maxLen];omega
  case qc5=>omega
  case qc6=>exact hsz
  intro v' w2 hown hgrow hnil
  obtain ⟨A',c',rfl,hT⟩:=HF.out _ _ hown
  have HT:Hid (PlTy w2 A' c' ([] ++ [k])):=hT
  have HB:Hid (Below w.heap.size w w2):=HB1.out.grown hgrow hsz (fun j hj=>(HO1.out.lt j hj).1)
  clear hown hgrow hnil hT
  go_wp2_with fail
  rw [rounds_succ]
  go_wp2_with fail
  go_ret
  exact ⟨⟨A',c',rfl,HT.out⟩,HB.out⟩
 | some a =>
  obtain ⟨b',o',rfl⟩:∃ b' o',a=⟨b',o',none⟩:=by
   rcases HH.out with ⟨h1,-⟩ | ⟨h1,-,h4 | ⟨b',o',cs,fr,h4,-⟩⟩
   ·cases h1
   ·exact absurd h4 h1
   ·cases h4;exact ⟨b',o',rfl⟩
  have hsz:=HB1.out.size
  have HHc:=(HH.out.later HB1.out).cells
  go_wp2_with (at_builtin;refine wpList_append_own _ rfl _ _ 27 rfl w.heap.size 3 i0 (.int .i64 0) 1 8 Tryz.underlying27 hi0 hz0 hz1 hz2 rfl (by decide) _ _ _ rfl HO1.out ⟨b',o',none⟩ nh ch (h.map (Value.int .i64)) rfl ?qc1 ?qc2 ?qc3 ?qc4 ?qc5 ?qc6 ?_)
  case qc1=>simp [HNH.out]
  case qc2=>exact HHc
  case qc3=>intro u hu;simp at hu;obtain ⟨x,-,rfl⟩:=hu;rfl
  case qc4=>simp only [maxLen];omega
  case qc5=>omega
  case qc6=>exact hsz
  intro v2 w2 hown hgrow hnil
  have HO2:Hid (w2.ownsRow w.heap.size 3 1 v2 nh (h.map (Value.int .i64))):=by
   show World.ownsRow ..
   simpa using hown
  have hne:∀ q,q<w.heap.size→some q≠v.ownBlock:=fun q hq e=>by have:=(HO1.out.lt q e.symm).1;omega
  have y1:=(World.cell?_of_block (a:=⟨b,1,none⟩) (hgrow.block b (Nat.lt_of_lt_of_le zb hsz) (hne b zb))).trans x1
  have yk:=(World.cell?_of_block (a:=⟨bk,0,none⟩) (hgrow.block bk (Nat.lt_of_lt_of_le zk hsz) (hne bk zk))).trans ((HB1.out.cell (p:=⟨bk,0,none⟩) zk).trans HCells.out.2.2)
  have HB2:Hid (Below w.heap.size w w2):=HB1.out.grown hgrow hsz (fun j hj=>(HO1.out.lt j hj).1)
  have hsz2:=HB2.out.size
  clear hown hgrow hnil hne HHc x0 x1
  go_wp2_with fail
  rw [rounds_succ]
  go_wp2_with (at_builtin;refine wpList_append_own _ rfl _ _ 27 rfl w.heap.size 3 i0 (.int .i64 0) 1 8 Tryz.underlying27 hi0 hz0 hz1 hz2 rfl (by decide) _ _ _ rfl HO2.out ⟨bk,0,none⟩ 1 1 [.int .i64 k] rfl rfl ?qd2 one_one ?qd4 ?qd5 ?qd6 ?_)
  case qd2=>exact one_at yk
  case qd4=>simp only [maxLen];omega
  case qd5=>omega
  case qd6=>exact hsz2
  intro v' w3 hown hgrow hnil
  obtain ⟨A',c',rfl,hT⟩:=HF.out w3 v' (by rw [List.map_append];simpa using hown)
  have HT:Hid (PlTy w3 A' c' (h ++ [k])):=hT
  have HB:Hid (Below w.heap.size w w3):=HB2.out.grown hgrow hsz2 (fun j hj=>(HO2.out.lt j hj).1)
  clear hown hgrow hnil hT
  go_wp2_with fail
  rw [rounds_succ]
  go_wp2_with fail
  go_ret
  exact ⟨⟨A',c',rfl,HT.out⟩,HB.out⟩
end Go.Proofs.YtnegjdcedhnjdaaGreatDoor
namespace Go.Proofs.YtnegjdcedhnjdaaGreatDoor
def lfs (D:Nat→Dm) (p:List Int) (i:Nat):List Int:=leafsOf (D i).mem (D i).n (p.getD i 0)
def cnts (d:Dm) (i:Int) (X:List Int):List Int:=(List.range d.n).map fun (k:Nat)=>if (k:Int)∈X then weightOf d.mem i (k:Int) else 0
theorem cnts_len (d:Dm) (i:Int) (X:List Int):(cnts d i X).length=d.n:=by simp [cnts]
theorem cnts_nil (d:Dm) (i:Int):cnts d i []=List.replicate d.n 0:=by
 apply List.ext_getElem
 ·simp [cnts]
 ·intro j h1 h2;simp [cnts]
theorem cnts_at {d:Dm} {i:Int} {X:List Int} {k:Nat} (hk:k<d.n):(cnts d i X).getD k 0=if (k:Int)∈X then weightOf d.mem i k else 0:=by
 simp [cnts,List.getD,hk]
theorem cnts_set {d:Dm} {i:Int} {X:List Int} {k:Nat}:(cnts d i X).set k (weightOf d.mem i k)=cnts d i (X ++ [(k:Int)]):=by
 apply List.ext_getElem
 ·simp [cnts]
 ·intro j h1 h2
  rw [List.getElem_set]
  by_cases e:k=j
  ·subst e;simp [cnts]
  ·have e' : ¬ ((j:Int)=(k:Int)):=by omega
   rw [if_neg e];simp [cnts,e']
theorem sel_in {p:Nat→Bool} {k m:Nat} (hm:m<k) (hp:p m=true):(m:Int)∈selTo p k:=by
 induction k with
 | zero=>omega
 | succ k ih =>
  by_cases e:m=k
  ·subst e;rw [selTo_hit hp];simp
  ·have h1:=ih (by omega)
   cases hk:p k
   ·rw [selTo_miss hk];exact h1
   ·rw [selTo_hit hk];simp [h1]
theorem lfs_mem {D:Nat→Dm} {p:List Int} {i:Nat}:∀ j∈lfs D p i,∃ m:Nat,j=m∧m<(D i).n∧leafIn (D i).mem (D i).n (p.getD i 0) m=true:=selTo_mem
theorem lfs_len (D:Nat→Dm) (p:List Int) (i:Nat):(lfs D p i).length≤(D i).n:=selTo_len _ _
def wts (D:Nat→Dm) (p:List Int) (i:Nat):List Int:=cnts (D i) (p.getD i 0) (lfs D p i)
theorem wts_at {D:Nat→Dm} {p:List Int} {i k:Nat} (hk:k<(D i).n) (hl:leafB (D i).mem (D i).n k=true):(wts D p i).getD k 0=weightOf (D i).mem (p.getD i 0) k:=by
 unfold wts
 rw [cnts_at hk]
 by_cases h:(k:Int)∈lfs D p i
 ·rw [if_pos h]
 ·rw [if_neg h]
  have h1:inB (pathOf (D i).mem k) (p.getD i 0)=false:=by
   cases hb:inB (pathOf (D i).mem k) (p.getD i 0)
   ·rfl
   ·exact absurd (sel_in hk (by unfold leafIn;rw [hl,hb];rfl)) h
  have h2:p.getD i 0∉pathOf (D i).mem k:=by unfold inB at h1;exact of_decide_eq_false h1
  rw [weightOf,wgt_out _ h2]
theorem wts_small {D:Nat→Dm} {n:Nat} (hR:(allErr D n).2.2=0) (p:List Int) {i:Nat} (hi:i<n) (k:Nat) : -1≤(wts D p i).getD k 0∧(wts D p i).getD k 0≤1:=by
 by_cases hk:k<(D i).n
 ·unfold wts
  rw [cnts_at hk]
  split
  ·have hd:=(allErr_right hR).2 i hi
   refine wgt_small (Sg.of hd) _ _ (fun j hj=>?_) 1 (by omega)
   have:=pathOf_mem (Tr.of hd) (D i).n k (by omega) (by omega) j hj
   omega
  ·omega
 ·have:(wts D p i).getD k 0=0:=by unfold wts;rw [List.getD_eq_getElem?_getD,List.getElem?_eq_none (by rw [cnts_len];omega)];rfl
  rw [this];omega
def prTo (R:Nat→List Int) (q:List Int):Nat→Int
 | 0=>1
 | k+1=>prTo R q k*(R k).getD (q.getD k 0).toNat 0
theorem leaf_each {D:Nat→Dm} {n:Nat} {q:List Int} (h:leafV D n q=true):∀ k,k<n→leafB (D k).mem (D k).n (q.getD k 0).toNat=true:=by
 unfold leafV at h
 split at h
 ·intro k hk
  cases hb:leafB (D k).mem (D k).n (q.getD k 0).toNat
  ·have h1:∀ m i,i≤k→k<i+m→0≤findFrom (notLeaf D q) m i:=by
    intro m
    induction m with
    | zero=>intro i h1 h2;omega
    | succ m ih =>
     intro i h1 h2
     cases hn:notLeaf D q i
     ·rw [findFrom_miss _ hn]
      refine ih (i+1) ?_ (by omega)
      rcases Nat.lt_or_ge i k with h3 | h3
      ·omega
      ·have:i=k:=by omega
       subst this
       unfold notLeaf at hn
       rw [hb] at hn
       cases hn
     ·rw [findFrom_hit _ hn];omega
   have:=h1 n 0 (by omega) (by omega)
   rw [decide_eq_true this] at h
   cases h
  ·rfl
 ·cases h
theorem leaf_all {D:Nat→Dm} {n:Nat} {q:List Int} (hq:InO D n q) (h:∀ k,k<n→leafB (D k).mem (D k).n (q.getD k 0).toNat=true):leafV D n q=true:=by
 unfold leafV
 rw [if_pos hq.ok]
 have h1:∀ m i,i+m≤n→findFrom (notLeaf D q) m i<0:=by
  intro m
  induction m with
  | zero=>intro i _;simp [findFrom]
  | succ m ih =>
   intro i hi
   have hn:notLeaf D q i=false:=by unfold notLeaf;rw [h i (by omega)];rfl
   rw [findFrom_miss _ hn]
   exact ih (i+1) (by omega)
 have:=h1 n 0 (by omega)
 rw [decide_eq_false (by omega)]
 rfl
theorem pr_wts {D:Nat→Dm} {n:Nat} {q:List Int} (hq:InO D n q) (hl:leafV D n q=true) (p:List Int):∀ k,k≤n→prTo (wts D p) q k=pwTo D p q k
 | 0,_=>rfl
 | k+1,hk=>by
  have hlo:=hq.lo k (by omega)
  have hhi:=hq.hi k (by omega)
  rw [prTo,pwTo,pr_wts hq hl p k (by omega),wts_at (by omega) (leaf_each hl k (by omega)),show ((q.getD k 0).toNat:Int)=q.getD k 0 by omega]
theorem prTo_small {D:Nat→Dm} {n:Nat} (hR:(allErr D n).2.2=0) (p q:List Int):∀ k,k≤n→-1≤prTo (wts D p) q k∧prTo (wts D p) q k≤1
 | 0,_=>by simp [prTo]
 | k+1,hk=>by
  rw [prTo]
  exact small_mul (prTo_small hR p q k (by omega)) (wts_small hR p (by omega) _)
theorem cnt_pw {D:Nat→Dm} {n:Nat} {p:List Int} {e:En}:cntR D n p e = !(pwTo D p e.pl n == 0):=by
 unfold cntR
 cases h:inTo D p e.pl n
 ·rw [pwTo_out h];rfl
 ·rfl
def longL (Ps:List (List Int)) (X:List Int):List (List Int):=Ps.flatMap fun h=>X.map fun k=>h ++ [k]
theorem longL_cons (h:List Int) (Ps:List (List Int)) (X:List Int):longL (h :: Ps) X=(X.map fun k=>h ++ [k]) ++ longL Ps X:=by simp [longL]
theorem longL_len (Ps:List (List Int)) (X:List Int):(longL Ps X).length=Ps.length*X.length:=by
 induction Ps with
 | nil=>simp [longL]
 | cons h r ih=>rw [longL_cons,List.length_append,ih,List.length_map,List.length_cons,Nat.succ_mul];omega
theorem longL_snoc (Ps:List (List Int)) (h:List Int) (X:List Int):longL (Ps ++ [h]) X=longL Ps X ++ X.map fun k=>h ++ [k]:=by simp [longL]
def lfTo (D:Nat→Dm) (p:List Int):Nat→List (List Int)
 | 0=>[[]]
 | k+1=>longL (lfTo D p k) (lfs D p k)
theorem lfTo_len {D:Nat→Dm} (p:List Int):∀ k,(lfTo D p k).length≤prodN D k
 | 0=>by simp [lfTo,prodN]
 | k+1=>by
  rw [lfTo,longL_len,prodN]
  exact Nat.mul_le_mul (lfTo_len p k) (lfs_len D p k)
theorem lfTo_each {D:Nat→Dm} (p:List Int):∀ k,∀ q∈lfTo D p k,q.length=k
 | 0,q,h=>by simp [lfTo] at h;simp [h]
 | k+1,q,h=>by
  simp only [lfTo,longL,List.mem_flatMap,List.mem_map] at h
  obtain ⟨h1,h2,x,h3,rfl⟩:=h
  simp [lfTo_each p k h1 h2]
def allTo (D:Nat→Dm):Nat→List (List Int)
 | 0=>[[]]
 | k+1=>longL (allTo D k) ((List.range (D k).n).map fun j=>((j:Nat):Int))
theorem allTo_each {D:Nat→Dm}:∀ k,∀ q∈allTo D k,q.length=k
 | 0,q,h=>by simp [allTo] at h;simp [h]
 | k+1,q,h=>by
  simp only [allTo,longL,List.mem_flatMap,List.mem_map] at h
  obtain ⟨h1,h2,x,h3,rfl⟩:=h
  simp [allTo_each k h1 h2]
theorem rest_next (D:Nat→Dm) (k x:Nat):∀ r,restAt D (k+1) x (r+1)=restAt D k (x / (D k).n) r
 | 0=>by simp [restAt]
 | r+1=>by
  rw [restAt,rest_next D k x r]
  conv=>rhs;rw [restAt]
  rw [show k+1-1-(r+1)=k-1-r by omega]
theorem place_next (D:Nat→Dm) (k x:Nat):placeL D (k+1) x=placeL D k (x / (D k).n) ++ [((x % (D k).n:Nat):Int)]:=by
 unfold placeL
 rw [List.range_succ,List.map_append]
 congr 1
 ·apply List.map_congr_left
  intro j hj
  have hj':j<k:=by simpa using hj
  unfold digitAt
  rw [show k+1-1-j=(k-1-j)+1 by omega,rest_next]
 ·simp [digitAt,restAt]
theorem range_mul {α:Type} (f:Nat→α) (a b:Nat):(List.range (a*b)).map f=(List.range a).flatMap fun i=>(List.range b).map fun j=>f (i*b+j):=by
 induction a with
 | zero=>simp
 | succ a ih =>
  rw [Nat.succ_mul,List.range_add,List.map_append,ih,List.range_succ,List.flatMap_append]
  simp [Function.comp_def]
theorem all_range (D:Nat→Dm):∀ k,(∀ j,j<k→1≤(D j).n)→(List.range (prodN D k)).map (placeL D k)=allTo D k
 | 0,_=>by simp [prodN,allTo,placeL]
 | k+1,h=>by
  have hk:=h k (by omega)
  rw [prodN,range_mul,allTo,←all_range D k fun j hj=>h j (by omega)]
  unfold longL
  rw [List.flatMap_map]
  congr 1
  funext i
  rw [List.map_map]
  apply List.map_congr_left
  intro j hj
  have hj':j<(D k).n:=by simpa using hj
  rw [place_next,show i*(D k).n+j=j+(D k).n*i by rw [Nat.mul_comm];omega,Nat.add_mul_div_left _ _ hk,Nat.add_mul_mod_self_left,Nat.div_eq_of_lt hj',Nat.mod_eq_of_lt hj',Nat.zero_add]
  rfl
def okTo (D:Nat→Dm) (p q:List Int):Nat→Bool
 | 0=>true
 | k+1=>okTo D p q k && leafIn (D k).mem (D k).n (p.getD k 0) (q.getD k 0).toNat
theorem okTo_head {D:Nat→Dm} {p h:List Int} {x:Int}:∀ k,k≤h.length→okTo D p (h ++ [x]) k=okTo D p h k
 | 0,_=>rfl
 | k+1,hk=>by
  rw [okTo,okTo,okTo_head k (by omega)]
  congr 3
  simp only [List.getD_eq_getElem?_getD]
  rw [List.getElem?_append_left (by omega)]
theorem filter_long {P:List Int→Bool} {p1:List Int→Bool} {p2:Int→Bool} {X:List Int}:∀ Ps:List (List Int),(∀ h∈Ps,∀ x,P (h ++ [x])=(p1 h && p2 x))→(longL Ps X).filter P=longL (Ps.filter p1) (X.filter p2)
 | [],_=>rfl
 | h :: r,hh=>by
  rw [longL_cons,List.filter_append,filter_long r fun a ha=>hh a (List.mem_cons_of_mem _ ha),List.filter_map]
  have e:(P ∘ fun k=>h ++ [k])=fun x=>(p1 h && p2 x):=funext fun x=>hh h (List.mem_cons_self ..) x
  rw [e,List.filter_cons]
  cases h1:p1 h
  ·simp
  ·simp only [Bool.true_and,if_true]
   rw [longL_cons]
theorem sel_filter (f:Nat→Bool):∀ n,((List.range n).map fun j=>((j:Nat):Int)).filter (fun x=>f x.toNat)=selTo f n
 | 0=>rfl
 | n+1=>by
  rw [List.range_succ,List.map_append,List.filter_append,sel_filter f n]
  cases h:f n
  ·rw [selTo_miss h];simp [h]
  ·rw [selTo_hit h];simp [h]
theorem all_filter (D:Nat→Dm) (p:List Int):∀ k,(allTo D k).filter (fun q=>okTo D p q k)=lfTo D p k
 | 0=>rfl
 | k+1=>by
  rw [allTo,filter_long (p1:=fun q=>okTo D p q k) (p2:=fun x=>leafIn (D k).mem (D k).n (p.getD k 0) x.toNat),all_filter D p k,lfTo,sel_filter]
  ·rfl
  ·intro h hh x
   have hl:=allTo_each k h hh
   rw [okTo,okTo_head k (by omega)]
   congr 2
   rw [List.getD_eq_getElem?_getD,List.getElem?_append_right (by omega),hl,Nat.sub_self]
   rfl
theorem ok_is {D:Nat→Dm} {n:Nat} {p q:List Int} (hq:InO D n q):okTo D p q n=(leafV D n q && inTo D p q n):=by
 have h1:∀ k,k≤n→(okTo D p q k=true↔(∀ j,j<k→leafB (D j).mem (D j).n (q.getD j 0).toNat=true)∧inTo D p q k=true):=by
  intro k
  induction k with
  | zero=>intro _;simp [okTo,inTo]
  | succ k ih =>
   intro hk
   have hlo:=hq.lo k (by omega)
   have e:((q.getD k 0).toNat:Int)=q.getD k 0:=by omega
   have ih':=ih (by omega)
   simp only [okTo,inTo,leafIn,Bool.and_eq_true,e]
   rw [ih']
   constructor
   ·rintro ⟨⟨a,b⟩,c,d⟩
    refine ⟨fun j hj=>?_,b,d⟩
    rcases Nat.lt_succ_iff_lt_or_eq.1 hj with h | rfl
    ·exact a j h
    ·exact c
   ·rintro ⟨a,b,d⟩
    exact ⟨⟨fun j hj=>a j (by omega),b⟩,a k (by omega),d⟩
 have h2:=h1 n (Nat.le_refl _)
 cases hl:leafV D n q
 ·rw [Bool.false_and]
  cases ho:okTo D p q n
  ·rfl
  ·rw [leaf_all hq (h2.1 ho).1] at hl
   cases hl
 ·rw [Bool.true_and]
  cases hi:inTo D p q n
  ·cases ho:okTo D p q n
   ·rfl
   ·rw [(h2.1 ho).2] at hi
    cases hi
  ·exact h2.2 ⟨leaf_each hl,hi⟩
def docL (D:Nat→Dm) (n:Nat) (p:List Int) (m:Nat):List (List Int):=((List.range m).map (placeL D n)).filter fun q=>leafV D n q && inTo D p q n
theorem docL_all {D:Nat→Dm} {n:Nat} (hR:(allErr D n).2.2=0) (p:List Int):docL D n p (prodN D n)=lfTo D p n:=by
 obtain ⟨-,-,-,hd⟩:=allErr_some hR
 rw [←all_filter,←all_range D n fun j hj=>(hd j hj).1]
 unfold docL
 apply List.filter_congr
 intro q hq
 simp only [List.mem_map] at hq
 obtain ⟨x,-,rfl⟩:=hq
 exact (ok_is (placeL_in hR)).symm
section
variable (N:List ByteArray) (C:List (Int×Int))
def refC (s:ByteArray):Int×Int:=C.getD (whereS N s).toNat noC
def valT:Tre→Int×Int
 | .num n=>ofP n
 | .ref s=>refC N C s
 | .bin o a b=>opP o (valT a) (valT b)
end
def refsT:Tre→List ByteArray
 | .num _=>[]
 | .ref s=>[s]
 | .bin _ a b=>refsT a ++ refsT b
def missT (N:List ByteArray) (t:Tre):Bool:=(refsT t).any fun s=>decide (whereS N s<0)
theorem val_ok (N:List ByteArray) {C:List (Int×Int)} (hC:∀ c∈C,okC c):∀ t:Tre,okC (valT N C t)
 | .num n=>okC_ofP n
 | .ref s=>by
  rw [valT,refC,List.getD_eq_getElem?_getD]
  cases h:C[(whereS N s).toNat]? with
  | none=>exact okC_no
  | some c=>exact hC c (List.mem_of_getElem? h)
 | .bin o a b=>opP_ok o _ _
/-! the names of a tree are those of the nodes -/
theorem refs_down {l:List Nd} (hl:RightL l) (s:ByteArray):∀ i,i<l.length→s∈refsT (treeOf l i)→∃ j,j<l.length∧(l.getD j noN).op=2∧(l.getD j noN).name=s:=by
 intro i
 induction i using Nat.strongRecOn with
 | _ i ih =>
  intro hi hs
  have ho:=op_range (hl i hi)
  by_cases h1:(l.getD i noN).op=1
  ·rw [tree_num h1] at hs;cases hs
  by_cases h2:(l.getD i noN).op=2
  ·rw [tree_ref h2,refsT,List.mem_singleton] at hs
   exact ⟨i,hi,h2,hs.symm⟩
  ·obtain ⟨a1,a2,a3,a4⟩:=nd_sides (hl i hi) (by omega)
   rw [tree_bin hl hi (by omega),refsT,List.mem_append] at hs
   rcases hs with hs | hs
   ·exact ih _ (by omega) (by omega) hs
   ·exact ih _ (by omega) (by omega) hs
theorem used_who {l:List Nd} (j:Nat):∀ k,1≤usedTo l k j→∃ i,i<k∧1≤uses (l.getD i noN) j
 | 0,h=>by cases h
 | k+1,h=>by
  by_cases h1:1≤uses (l.getD k noN) j
  ·exact ⟨k,Nat.lt_succ_self _,h1⟩
  ·have h2:1≤usedTo l k j+uses (l.getD k noN) j:=h
   obtain ⟨i,hi,h3⟩:=used_who (l:=l) j k (by omega)
   exact ⟨i,by omega,h3⟩
theorem refs_up {l:List Nd} (h:formErr l=0) (s:ByteArray):∀ n j,l.length-j=n→j<l.length→s∈refsT (treeOf l j)→s∈refsT (treeOf l (l.length-1)):=by
 obtain ⟨h1,h2,hl,h4⟩:=form_right h
 intro n
 induction n using Nat.strongRecOn with
 | _ n ih =>
  intro j hn hj hs
  by_cases e:j=l.length-1
  ·rw [←e];exact hs
  obtain ⟨i,hi,hu⟩:=used_who (l:=l) j l.length (by rw [h4 j (by omega)];exact Nat.le_refl _)
  unfold uses at hu
  split at hu
  ·rename_i hop
   obtain ⟨a1,a2,a3,a4⟩:=nd_sides (hl i hi) hop
   have hsi:s∈refsT (treeOf l i):=by
    rw [tree_bin hl hi hop,refsT,List.mem_append]
    by_cases e1:(l.getD i noN).left=(j:Int)
    ·left;rw [e1];exact hs
    ·by_cases e2:(l.getD i noN).right=(j:Int)
     ·right;rw [e2];exact hs
     ·rw [if_neg e1,if_neg e2] at hu;omega
   have hij:j<i:=by
    by_cases e1:(l.getD i noN).left=(j:Int)
    ·omega
    ·by_cases e2:(l.getD i noN).right=(j:Int)
     ·omega
     ·rw [if_neg e1,if_neg e2] at hu;omega
   exact ih (l.length-i) (by omega) i rfl hi hsi
  ·omega
theorem refs_mem {l:List Nd} (h:formErr l=0) (s:ByteArray):s∈refsT (treeOf l (l.length-1))↔∃ j,j<l.length∧(l.getD j noN).op=2∧(l.getD j noN).name=s:=by
 obtain ⟨h1,h2,hl,h4⟩:=form_right h
 refine ⟨refs_down hl s _ (by omega),fun ⟨j,hj,h2,h3⟩=>?_⟩
 refine refs_up h s _ j rfl hj ?_
 rw [tree_ref h2,h3,refsT]
 exact List.mem_singleton.2 rfl
def missR (N:List ByteArray) (l:List Nd) (i:Nat):Bool:=decide ((l.getD i noN).op=2) && decide (whereS N (l.getD i noN).name<0)
theorem miss_yes {N:List ByteArray} {l:List Nd} (h:formErr l=0) {i:Nat} (hi:i<l.length) (hm:missR N l i=true):missT N (treeOf l (l.length-1))=true:=by
 simp only [missR,Bool.and_eq_true,decide_eq_true_eq] at hm
 unfold missT
 rw [List.any_eq_true]
 exact ⟨_,(refs_mem h _).2 ⟨i,hi,hm.1,rfl⟩,decide_eq_true hm.2⟩
theorem miss_no {N:List ByteArray} {l:List Nd} (h:formErr l=0) (hm:∀ i,i<l.length→missR N l i=false):missT N (treeOf l (l.length-1))=false:=by
 rw [Bool.eq_false_iff]
 intro e
 unfold missT at e
 rw [List.any_eq_true] at e
 obtain ⟨s,h1,h2⟩:=e
 obtain ⟨j,hj,h3,h4⟩:=(refs_mem h s).1 h1
 have:=hm j hj
 unfold missR at this
 rw [h4,h3] at this
 simp at this h2
 omega
def valE (l:List Nd) (N:List ByteArray) (C:List (Int×Int)):Int:=if formErr l≠0 then formErr l else if ckErr N C≠0 then ckErr N C else if missT N (treeOf l (l.length-1))=true then 5 else 0
def valC (l:List Nd) (N:List ByteArray) (C:List (Int×Int)):Int×Int:=if valE l N C=0 then valT N C (treeOf l (l.length-1)) else noC
def valG (E:ByteArray→Int×Int):Tre→Int×Int
 | .num n=>ofP n
 | .ref s=>E s
 | .bin o a b=>opP o (valG E a) (valG E b)
theorem valG_names (N:List ByteArray) (C:List (Int×Int)) (E:ByteArray→Int×Int):∀ t:Tre,(∀ s∈refsT t,refC N C s=E s)→valT N C t=valG E t
 | .num _,_=>rfl
 | .ref s,h=>h s (by simp [refsT])
 | .bin o a b,h=>by
  rw [valT,valG,valG_names N C E a fun s hs=>h s (by simp [refsT,hs]),valG_names N C E b fun s hs=>h s (by simp [refsT,hs])]
theorem valG_same (E F:ByteArray→Int×Int):∀ t:Tre,(∀ s∈refsT t,E s=F s)→valG E t=valG F t
 | .num _,_=>rfl
 | .ref s,h=>h s (by simp [refsT])
 | .bin o a b,h=>by
  rw [valG,valG,valG_same E F a fun s hs=>h s (by simp [refsT,hs]),valG_same E F b fun s hs=>h s (by simp [refsT,hs])]
def treF (d:Dm) (i:Nat):Tre:=treeOf (prsL (d.mem i).formula) ((prsL (d.mem i).formula).length-1)
def oneV (d:Dm) (at':Int→Int×Int) (i:Nat):Int×Int:=if (d.mem i).formula.size=0 then (partsOf d.mem d.n i).foldl (partStep d.mem at') (0,0) else valG (fun s=>at' (whL d s.data.toList)) (treF d i)
theorem tre_names {d:Dm} {i:Nat} (hp:prsE (d.mem i).formula=0) {s:ByteArray} (hs:s∈refsT (treF d i)):s.data.toList∈nmsOf d i:=by
 unfold treF at hs
 obtain ⟨j,hj,h2,h3⟩:=(refs_mem (form_read hp) s).1 hs
 rw [←h3]
 refine nms_has ?_ h2
 rw [List.getD_eq_getElem?_getD,List.getElem?_eq_getElem hj]
 exact List.getElem_mem hj
theorem mErr_prsE {d:Dm} {i:Nat} (hf:(d.mem i).formula.size≠0) (h:mErr d i=0):prsE (d.mem i).formula=0:=by
 unfold mErr at h
 rw [if_neg hf] at h
 split at h
 ·rename_i h1;exact absurd h h1
 ·rename_i h1;simpa using h1
theorem oneV_same {d:Dm} (hd:(dimErr d).2=0) {i:Nat} (hm:mErr d i=0) {a b:Int→Int×Int} (h:∀ x∈mNd d i,a x=b x):oneV d a i=oneV d b i:=by
 unfold oneV
 by_cases hf:(d.mem i).formula.size=0
 ·rw [if_pos hf,if_pos hf]
  have hall:∀ (P:List Int) (c:Int×Int),(∀ x∈P,x∈partsOf d.mem d.n i)→P.foldl (partStep d.mem a) c=P.foldl (partStep d.mem b) c:=by
   intro P
   induction P with
   | nil=>intro c _;rfl
   | cons x r ih =>
    intro c hP
    have hx:=hP x (by simp)
    rw [List.foldl_cons,List.foldl_cons]
    have e:partStep d.mem a c x=partStep d.mem b c x:=by
     unfold partStep
     by_cases hs:(d.mem x.toNat).sign=0
     ·rw [if_neg (by omega),if_neg (by omega),if_neg (by omega),if_neg (by omega)]
     ·have hn:x∈mNd d i:=by
       rw [←parts_need hf,List.mem_filter]
       exact ⟨hx,by unfold sgB;exact decide_eq_true hs⟩
      rw [h x hn]
    rw [e]
    exact ih _ fun y hy=>hP y (List.mem_cons_of_mem _ hy)
  exact hall _ _ fun x hx=>hx
 ·rw [if_neg hf,if_neg hf]
  refine valG_same _ _ _ fun s hs=>h _ ?_
  exact (need_names hd hf hm _).2 ⟨_,tre_names (mErr_prsE hf hm) hs,rfl⟩
def byTo (D:Nat→Dm) (p:List Int):Nat→Int
 | 0 => -1
 | k+1=>if leafB (D k).mem (D k).n (p.getD k 0).toNat=false∧(byTo D p k<0∨(D (byTo D p k).toNat).solve<(D k).solve) then (k:Int) else byTo D p k
theorem by_in (D:Nat→Dm) (p:List Int) (k:Nat):byTo D p k = -1∨∃ b:Nat,byTo D p k=(b:Int)∧b<k:=by
 induction k with
 | zero=>exact Or.inl rfl
 | succ k ih =>
  unfold byTo
  split
  ·exact Or.inr ⟨k,rfl,by omega⟩
  ·rcases ih with h | ⟨b,h1,h2⟩
   ·exact Or.inl h
   ·exact Or.inr ⟨b,h1,by omega⟩
def rkD (d:Dm) (i:Int):Nat:=(ordTo (ndL d) d.n).idxOf i
theorem ord_all {d:Dm} (h:(rErr d).2=0) {i:Nat} (hi:i<d.n):(i:Int)∈ordTo (ndL d) d.n:=by
 refine Classical.byContradiction fun hn=>?_
 obtain ⟨h1,h2⟩:=ord_in (ndL d) d.n
 rw [ndL_len] at h2
 have:=few d.n ((i:Int) :: ordTo (ndL d) d.n) (List.nodup_cons.2 ⟨hn,h1⟩) fun x hx=>by
  rcases List.mem_cons.1 hx with rfl | hx
  ·omega
  ·exact h2 x hx
 rw [List.length_cons,ord_len (ndL_inn d) (rErr_acyc h) d.n (by rw [ndL_len];exact Nat.le_refl _)] at this
 omega
theorem rk_less {d:Dm} (h:(rErr d).2=0) {i:Nat} (hi:i<d.n) {x:Int} (hx:x∈mNd d i):rkD d x<rkD d i:=by
 obtain ⟨k,hk,e⟩:=List.getElem_of_mem (ord_all h hi)
 have hl:=ord_len (ndL_inn d) (rErr_acyc h) d.n (by rw [ndL_len];exact Nat.le_refl _)
 have hk2:k<(ndL d).length:=by rw [ndL_len];omega
 obtain ⟨m,h1,h2,h3,h4,-⟩:=ord_at (ndL_inn d) (rErr_acyc h) hk2
 rw [ndL_len] at h1 h3 h4
 have hm:m=i:=by
  rw [List.getD_eq_getElem?_getD,List.getElem?_eq_getElem hk,e] at h1
  have:(i:Int)=(m:Int):=by simpa using h1
  omega
 subst hm
 rw [ndL_at hi] at h4
 have hx2:=h4 x hx
 unfold rkD
 have hsp:ordTo (ndL d) d.n=(ordTo (ndL d) d.n).take k ++ (ordTo (ndL d) d.n).drop k:=(List.take_append_drop _ _).symm
 have hkl:((ordTo (ndL d) d.n).take k).length=k:=by rw [List.length_take];omega
 have a1:(ordTo (ndL d) d.n).idxOf x<k:=by
  rw [hsp,List.idxOf_append,if_pos hx2]
  have:=List.idxOf_lt_length_of_mem hx2
  omega
 have a2:k≤(ordTo (ndL d) d.n).idxOf (m:Int):=by
  rw [hsp,List.idxOf_append,if_neg h3]
  omega
 omega
def msrTo (D:Nat→Dm) (p:List Int):Nat→Nat
 | 0=>0
 | k+1=>msrTo D p k+rkD (D k) (p.getD k 0)
theorem getD_set_at {p:List Int} {b:Nat} {x:Int} (h:b<p.length):(p.set b x).getD b 0=x:=by
 simp [List.getD,h]
theorem getD_set_off {p:List Int} {b k:Nat} {x:Int} (h:k≠b):(p.set b x).getD k 0=p.getD k 0:=by
 simp [List.getD,List.getElem?_set_ne (fun e=>h e.symm)]
theorem msr_less {D:Nat→Dm} {p:List Int} {b:Nat} {x:Int} (hb:b<p.length) (hr:rkD (D b) x<rkD (D b) (p.getD b 0)) (k:Nat):(k≤b→msrTo D (p.set b x) k=msrTo D p k)∧(b<k→msrTo D (p.set b x) k<msrTo D p k):=by
 induction k with
 | zero=>exact ⟨fun _=>rfl,fun h=>by omega⟩
 | succ k ih =>
  refine ⟨fun h=>?_,fun h=>?_⟩
  ·rw [msrTo,msrTo,ih.1 (by omega),getD_set_off (by omega)]
  ·rw [msrTo,msrTo]
   by_cases e:k=b
   ·subst e
    rw [ih.1 (Nat.le_refl _),getD_set_at hb]
    omega
   ·have:=ih.2 (by omega)
    rw [getD_set_off e]
    omega
def solF (D:Nat→Dm) (n:Nat) (inp:List Int→Int×Int):Nat→List Int→Int×Int
 | 0,_=>(0,0)
 | f+1,p=>if byTo D p n<0 then inp p else oneV (D (byTo D p n).toNat) (fun x=>solF D n inp f (p.set (byTo D p n).toNat x)) (p.getD (byTo D p n).toNat 0).toNat
def AllR (D:Nat→Dm) (n:Nat):Prop := ∀ i,i<n→(rErr (D i)).2=0
theorem inO_set {D:Nat→Dm} {n:Nat} {p:List Int} (h:InO D n p) {b:Nat} (hb:b<n) {x:Int} (h0:0≤x) (h1:x<((D b).n:Int)):InO D n (p.set b x):=by
 refine ⟨h.right,by rw [List.length_set];exact h.len,fun i hi=>?_,fun i hi=>?_⟩
 ·by_cases e:i=b
  ·subst e
   rw [getD_set_at (by rw [h.len];exact hb)]
   exact h0
  ·rw [getD_set_off e]
   exact h.lo i hi
 ·by_cases e:i=b
  ·subst e
   rw [getD_set_at (by rw [h.len];exact hb)]
   exact h1
  ·rw [getD_set_off e]
   exact h.hi i hi
theorem sol_same {D:Nat→Dm} {n:Nat} (hR:AllR D n) (inp:List Int→Int×Int):∀ (f g:Nat) (p:List Int),InO D n p→msrTo D p n<f→msrTo D p n<g→solF D n inp f p=solF D n inp g p:=by
 intro f
 induction f with
 | zero=>intro g p _ h;omega
 | succ f ih =>
  intro g p hp hf hg
  obtain ⟨g,rfl⟩:∃ g',g=g'+1:=⟨g-1,by omega⟩
  unfold solF
  rcases by_in D p n with h | ⟨b,h1,h2⟩
  ·rw [h,if_pos (by omega),if_pos (by omega)]
  ·rw [h1,if_neg (by omega),if_neg (by omega),Int.toNat_natCast]
   obtain ⟨hd,hm,-,-⟩:=rErr_right (hR b h2)
   obtain ⟨hp0,hp1⟩:0≤p.getD b 0∧p.getD b 0<((D b).n:Int):=⟨hp.lo b h2,hp.hi b h2⟩
   refine oneV_same hd (hm _ (by omega)) fun x hx=>?_
   have hxi:=mNd_in hx
   have hi2:(p.getD b 0).toNat<(D b).n:=by omega
   have hrk:=rk_less (hR b h2) hi2 hx
   rw [Int.toNat_of_nonneg hp0] at hrk
   have hms:=(msr_less (by rw [hp.len];exact h2) hrk n).2 h2
   exact ih g _ (inO_set hp h2 hxi.1 hxi.2) (by omega) (by omega)
def solV (D:Nat→Dm) (n:Nat) (inp:List Int→Int×Int) (p:List Int):Int×Int:=solF D n inp (msrTo D p n+1) p
theorem sol_leaf {D:Nat→Dm} {n:Nat} (inp:List Int→Int×Int) {p:List Int} (h:byTo D p n<0):solV D n inp p=inp p:=by
 unfold solV solF
 rw [if_pos h]
theorem sol_by {D:Nat→Dm} {n:Nat} (hR:AllR D n) (inp:List Int→Int×Int) {p:List Int} (hp:InO D n p) {b:Nat} (hb:byTo D p n=(b:Int)):solV D n inp p=oneV (D b) (fun x=>solV D n inp (p.set b x)) (p.getD b 0).toNat:=by
 have h2:b<n:=by
  rcases by_in D p n with h | ⟨b',h1,h2⟩
  ·omega
  ·omega
 show solF D n inp (msrTo D p n+1) p=_
 unfold solF
 rw [hb,if_neg (by omega),Int.toNat_natCast]
 obtain ⟨hd,hm,-,-⟩:=rErr_right (hR b h2)
 obtain ⟨hp0,hp1⟩:0≤p.getD b 0∧p.getD b 0<((D b).n:Int):=⟨hp.lo b h2,hp.hi b h2⟩
 refine oneV_same hd (hm _ (by omega)) fun x hx=>?_
 have hxi:=mNd_in hx
 have hi2:(p.getD b 0).toNat<(D b).n:=by omega
 have hrk:=rk_less (hR b h2) hi2 hx
 rw [Int.toNat_of_nonneg hp0] at hrk
 have hms:=(msr_less (by rw [hp.len];exact h2) hrk n).2 h2
 exact sol_same hR inp _ _ _ (inO_set hp h2 hxi.1 hxi.2) (by omega) (by omega)
def facS (D:Nat→Dm) (S:Nat→Bool) (p q:List Int) (k:Nat):Int:=if S k=true then weightOf (D k).mem (p.getD k 0) (q.getD k 0) else if p.getD k 0=q.getD k 0 then 1 else 0
def gwTo (D:Nat→Dm) (S:Nat→Bool) (p q:List Int):Nat→Int
 | 0=>1
 | k+1=>gwTo D S p q k*facS D S p q k
theorem gw_congr {D:Nat→Dm} {S S':Nat→Bool} {p p' q:List Int}:∀ k,(∀ j,j<k→facS D S p q j=facS D S' p' q j)→gwTo D S p q k=gwTo D S' p' q k
 | 0,_=>rfl
 | k+1,h=>by rw [gwTo,gwTo,gw_congr k fun j hj=>h j (by omega),h k (by omega)]
def grTo (D:Nat→Dm) (S:Nat→Bool) (dim:Nat) (p q:List Int):Nat→Int
 | 0=>1
 | k+1=>grTo D S dim p q k*(if k=dim then 1 else facS D S p q k)
theorem gw_split (D:Nat→Dm) (S:Nat→Bool) (dim:Nat) (p q:List Int):∀ k,gwTo D S p q k=grTo D S dim p q k*(if dim<k then facS D S p q dim else 1)
 | 0=>by simp [gwTo,grTo]
 | k+1=>by
  rw [gwTo,grTo,gw_split D S dim p q k]
  rcases Nat.lt_trichotomy dim k with h | h | h
  ·rw [if_pos h,if_pos (show dim<k+1 by omega),if_neg (show ¬ k=dim by omega),Int.mul_assoc,Int.mul_comm (facS D S p q dim),←Int.mul_assoc]
  ·subst h
   rw [if_neg (show ¬ dim<dim by omega),if_pos (show dim<dim+1 by omega),if_pos (show dim=dim from rfl)]
  ·rw [if_neg (show ¬ dim<k by omega),if_neg (show ¬ dim<k+1 by omega),if_neg (show ¬ k=dim by omega),Int.mul_one,Int.mul_one]
theorem gr_congr {D:Nat→Dm} {S:Nat→Bool} {dim:Nat} {p p' q:List Int}:∀ k,(∀ j,j<k→j≠dim→p.getD j 0=p'.getD j 0)→grTo D S dim p q k=grTo D S dim p' q k
 | 0,_=>rfl
 | k+1,h=>by
  rw [grTo,grTo,gr_congr k fun j hj=>h j (by omega)]
  by_cases e:k=dim
  ·rw [if_pos e,if_pos e]
  ·rw [if_neg e,if_neg e]
   unfold facS
   rw [h k (by omega) e]
theorem fac_small {D:Nat→Dm} {n:Nat} {q:List Int} (hq:InO D n q) (S:Nat→Bool) (p:List Int) {k:Nat} (hk:k<n) : -1≤facS D S p q k∧facS D S p q k≤1:=by
 unfold facS
 split
 ·exact weight_small hq hk _
 ·split <;> omega
theorem gw_small {D:Nat→Dm} {n:Nat} {q:List Int} (hq:InO D n q) (S:Nat→Bool) (p:List Int):∀ k,k≤n→-1≤gwTo D S p q k∧gwTo D S p q k≤1
 | 0,_=>by simp [gwTo]
 | k+1,hk=>by
  rw [gwTo]
  exact small_mul (gw_small hq S p k (by omega)) (fac_small hq S p (by omega))
def gN (D:Nat→Dm) (n:Nat) (S:Nat→Bool) (p:List Int):List En→Int
 | []=>0
 | e :: r=>gwTo D S p e.pl n*e.n+gN D n S p r
def gB (D:Nat→Dm) (n:Nat) (S:Nat→Bool) (p:List Int) (e:En):Bool := !(gwTo D S p e.pl n == 0)
def gV (D:Nat→Dm) (n:Nat) (S:Nat→Bool) (l:List En) (p:List Int):Int×Int:=(if l.any (gB D n S p)=true then 1 else 0,gN D n S p l)
def gL (D:Nat→Dm) (n:Nat) (S:Nat→Bool) (l:List En):List (Int×Int):=(List.range (prodN D n)).map fun x=>gV D n S l (placeL D n x)
theorem gL_len (D:Nat→Dm) (n:Nat) (S:Nat→Bool) (l:List En):(gL D n S l).length=prodN D n:=by simp [gL]
theorem gL_at {D:Nat→Dm} {n:Nat} {S:Nat→Bool} {l:List En} {x:Nat} (hx:x<prodN D n):(gL D n S l).getD x (0,0)=gV D n S l (placeL D n x):=by simp [gL,List.getD,hx]
theorem gV_congr {D:Nat→Dm} {n:Nat} {S S':Nat→Bool} {p p':List Int}:∀ {l:List En},(∀ e∈l,gwTo D S p e.pl n=gwTo D S' p' e.pl n)→gV D n S l p=gV D n S' l p'
 | [],_=>rfl
 | e :: r,h=>by
  have ih:=gV_congr (l:=r) fun x hx=>h x (List.mem_cons_of_mem _ hx)
  have he:=h e (List.mem_cons_self ..)
  unfold gV at ih ⊢
  simp only [Prod.mk.injEq] at ih
  have hb:gB D n S p e=gB D n S' p' e:=by unfold gB;rw [he]
  rw [List.any_cons,List.any_cons,hb,gN,gN,he,ih.2]
  refine Prod.ext ?_ rfl
  have h1:=ih.1
  simp only at h1 ⊢
  cases gB D n S' p' e
  ·simpa using h1
  ·simp
theorem gN_bound {D:Nat→Dm} {n:Nat} (S:Nat→Bool) (p:List Int):∀ l:List En,(∀ e∈l,InO D n e.pl∧leafV D n e.pl=true∧numOk e.n=true)→-1000000*(l.length:Int)≤gN D n S p l∧gN D n S p l≤1000000*(l.length:Int)
 | [],_=>by simp [gN]
 | e :: r,h=>by
  obtain ⟨h1,-,h2⟩:=h e (List.mem_cons_self ..)
  have ih:=gN_bound S p r fun x hx=>h x (List.mem_cons_of_mem _ hx)
  have hw:=gw_small h1 S p n (Nat.le_refl _)
  have hn : -1000000≤e.n∧e.n≤1000000:=by simpa [numOk] using h2
  have hv : -1000000≤gwTo D S p e.pl n*e.n∧gwTo D S p e.pl n*e.n≤1000000:=by
   have h3:gwTo D S p e.pl n = -1∨gwTo D S p e.pl n=0∨gwTo D S p e.pl n=1:=by omega
   rcases h3 with h3 | h3 | h3 <;> rw [h3] <;> omega
  rw [gN,List.length_cons]
  omega
theorem gN_none {D:Nat→Dm} {n:Nat} {S:Nat→Bool} {p:List Int}:∀ {l:List En},l.any (gB D n S p)=false→gN D n S p l=0
 | [],_=>rfl
 | e :: r,h=>by
  rw [List.any_cons,Bool.or_eq_false_iff] at h
  have:gwTo D S p e.pl n=0:=by have:=h.1;unfold gB at this;simpa using this
  rw [gN,gN_none h.2,this]
  simp
theorem gw_all {D:Nat→Dm} {S:Nat→Bool} {p q:List Int}:∀ k,(∀ j,j<k→S j=true)→gwTo D S p q k=pwTo D p q k
 | 0,_=>rfl
 | k+1,h=>by rw [gwTo,pwTo,gw_all k fun j hj=>h j (by omega),facS,if_pos (h k (by omega))]
theorem gV_all {D:Nat→Dm} {n:Nat} {S:Nat→Bool} (hS:∀ j,j<n→S j=true) (l:List En) (p:List Int):gV D n S l p=rollV D n l p:=by
 have h1:∀ l:List En,l.any (gB D n S p)=l.any (cntR D n p):=fun l=>by
  induction l with
  | nil=>rfl
  | cons e r ih=>rw [List.any_cons,List.any_cons,ih,cnt_pw,gB,gw_all n hS]
 have h2:∀ l:List En,gN D n S p l=rollN D n p l:=fun l=>by
  induction l with
  | nil=>rfl
  | cons e r ih =>
   rw [gN,rollN,ih,gw_all n hS,cnt_pw]
   by_cases h:pwTo D p e.pl n=0
   ·rw [h];simp
   ·rw [if_pos (by simpa using h)];rfl
 unfold gV rollV rollK
 rw [h1,h2]
theorem gw_none {D:Nat→Dm} {p q:List Int}:∀ k,gwTo D (fun _=>false) p q k=if ∀ j,j<k→p.getD j 0=q.getD j 0 then 1 else 0
 | 0=>by simp [gwTo]
 | k+1=>by
  rw [gwTo,gw_none k,facS]
  simp only [Bool.false_eq_true,if_false]
  by_cases h:∀ j,j<k→p.getD j 0=q.getD j 0
  ·rw [if_pos h]
   by_cases e:p.getD k 0=q.getD k 0
   ·rw [if_pos e,if_pos]
    ·rfl
    ·intro j hj
     rcases Nat.lt_succ_iff_lt_or_eq.1 hj with h1 | rfl
     ·exact h j h1
     ·exact e
   ·rw [if_neg e,if_neg]
    ·rfl
    ·exact fun h1=>e (h1 k (by omega))
  ·rw [if_neg h,if_neg (show ¬ ∀ j,j<k+1→p.getD j 0=q.getD j 0 from fun h1=>h fun j hj=>h1 j (by omega)),Int.zero_mul]
theorem gw_num {D:Nat→Dm} {n x:Nat} {q:List Int} (hq:InO D n q) (hx:x<prodN D n):gwTo D (fun _=>false) (placeL D n x) q n=if (numI D q n).toNat=x then 1 else 0:=by
 rw [gw_none]
 by_cases h:(numI D q n).toNat=x
 ·rw [if_pos h,if_pos]
  intro j _
  rw [←h,place_num hq]
 ·rw [if_neg h,if_neg]
  intro h1
  have e:placeL D n x=q:=by
   apply List.ext_getElem (by rw [placeL_len];exact hq.len.symm)
   intro j h2 h3
   have:=h1 j (by rw [placeL_len] at h2;exact h2)
   simpa [List.getD,h2,h3] using this
  apply h
  rw [←e,num_place hq.right hx]
  omega
theorem wr_get {D:Nat→Dm} {n:Nat} {x:Nat} (hx:x<prodN D n):∀ (l:List En) (L:List (Int×Int)),L.length=prodN D n→(∀ e∈l,InO D n e.pl)→(l.Pairwise fun a b=>lessL a.pl b.pl=true)→(l.foldl (wrStep D n) L).getD x (0,0)=if l.any (gB D n (fun _=>false) (placeL D n x))=true then (1,gN D n (fun _=>false) (placeL D n x) l) else L.getD x (0,0)
 | [],L,_,_,_=>by simp
 | e :: r,L,hL,hi,hr=>by
  have hie:=hi e (List.mem_cons_self ..)
  have hr':=List.pairwise_cons.1 hr
  obtain ⟨hb1,hb2,-⟩:=numI_bound hie (Nat.le_refl n)
  rw [List.foldl_cons,wr_get hx r _ (by unfold wrStep;rw [List.length_set];exact hL) (fun y hy=>hi y (List.mem_cons_of_mem _ hy)) hr'.2,List.any_cons,gN]
  have hg:=gw_num hie hx
  unfold wrStep
  rw [getD_set (by omega)]
  by_cases h:(numI D e.pl n).toNat=x
  ·have hno:r.any (gB D n (fun _=>false) (placeL D n x))=false:=by
    rw [Bool.eq_false_iff]
    intro ha
    obtain ⟨y,hy,hyb⟩:=List.any_eq_true.1 ha
    have hiy:=hi y (List.mem_cons_of_mem _ hy)
    have h1:=gw_num hiy hx
    have h2:=less_num hie hiy (hr'.1 y hy)
    obtain ⟨h3,-,-⟩:=numI_bound hiy (Nat.le_refl n)
    rw [if_neg (by omega)] at h1
    unfold gB at hyb
    rw [h1] at hyb
    simp at hyb
   rw [if_pos h] at hg
   have hbe:gB D n (fun _=>false) (placeL D n x) e=true:=by unfold gB;rw [hg];rfl
   rw [hno,hbe,gN_none hno,hg]
   simp [h]
  ·rw [if_neg h] at hg
   have hbe:gB D n (fun _=>false) (placeL D n x) e=false:=by unfold gB;rw [hg];rfl
   rw [hbe,hg,if_neg (show ¬ x=(numI D e.pl n).toNat from fun e=>h e.symm)]
   simp
theorem wr_gL {D:Nat→Dm} {n:Nat} {l:List En} (h:Ens D n l):wrV D n l=gL D n (fun _=>false) l:=by
 refine list_same (by rw [wrV_len,gL_len]) fun x hx=>?_
 rw [wrV_len] at hx
 rw [gL_at hx]
 unfold wrV
 rw [wr_get hx l _ (by simp) (fun e he=>(h.each e he).1) h.rise]
 unfold gV
 split
 ·rfl
 ·rename_i hn
  rw [gN_none (by simpa using hn)]
  simp [List.getD,hx]
def sumP (f:Int→Int):List Int→Int
 | []=>0
 | k :: r=>f k+sumP f r
theorem sumP_congr {f g:Int→Int}:∀ {P:List Int},(∀ k∈P,f k=g k)→sumP f P=sumP g P
 | [],_=>rfl
 | k :: r,h=>by rw [sumP,sumP,h k (List.mem_cons_self ..),sumP_congr fun j hj=>h j (List.mem_cons_of_mem _ hj)]
theorem sumP_add (f g:Int→Int):∀ P:List Int,sumP (fun k=>f k+g k) P=sumP f P+sumP g P
 | []=>rfl
 | k :: r=>by rw [sumP,sumP,sumP,sumP_add f g r];omega
theorem sumP_mul (f:Int→Int) (c:Int):∀ P:List Int,sumP (fun k=>f k*c) P=sumP f P*c
 | []=>by simp [sumP]
 | k :: r=>by rw [sumP,sumP,sumP_mul f c r,Int.add_mul]
theorem sumP_append (f:Int→Int):∀ (P Q:List Int),sumP f (P ++ Q)=sumP f P+sumP f Q
 | [],Q=>by simp [sumP]
 | k :: r,Q=>by rw [List.cons_append,sumP,sumP,sumP_append f r Q];omega
theorem sumP_zero {f:Int→Int}:∀ {P:List Int},(∀ k∈P,f k=0)→sumP f P=0
 | [],_=>rfl
 | k :: r,h=>by rw [sumP,h k (List.mem_cons_self ..),sumP_zero fun j hj=>h j (List.mem_cons_of_mem _ hj)];rfl
theorem sel_single {f:Int→Int} {p:Nat→Bool} {k0:Nat}:∀ n,k0<n→p k0=true→(∀ k,k<n→p k=true→k≠k0→f k=0)→sumP f (selTo p n)=f k0
 | 0,h,_,_=>by omega
 | n+1,h,hp,hz=>by
  by_cases e:k0=n
  ·subst e
   have h0:sumP f (selTo p k0)=0:=sumP_zero fun k hk=>by
    obtain ⟨m,rfl,hm,hpm⟩:=selTo_mem k hk
    exact hz m (by omega) hpm (by omega)
   rw [selTo_hit hp,sumP_append,h0]
   simp [sumP]
  ·have ih:=sel_single n (by omega) hp fun k hk=>hz k (by omega)
   cases hn:p n
   ·rw [selTo_miss hn];exact ih
   ·rw [selTo_hit hn,sumP_append,ih,sumP,sumP,hz n (by omega) hn (fun h=>e h.symm)];omega
theorem sumTo_none {f:Nat→Nat}:∀ n,sumTo f n=0→∀ k,k<n→f k=0
 | 0,_,k,hk=>by omega
 | n+1,h,k,hk=>by
  rw [sumTo] at h
  by_cases e:k=n
  ·rw [e];omega
  ·exact sumTo_none n (by omega) k (by omega)
theorem sumTo_only {f:Nat→Nat}:∀ n,sumTo f n=1→∃ k,k<n∧f k=1∧∀ j,j<n→j≠k→f j=0
 | 0,h=>by simp [sumTo] at h
 | n+1,h=>by
  rw [sumTo] at h
  by_cases e:f n=0
  ·obtain ⟨k,h1,h2,h3⟩:=sumTo_only (f:=f) n (by omega)
   refine ⟨k,by omega,h2,fun j hj hne=>?_⟩
   by_cases e2:j=n
   ·rw [e2];exact e
   ·exact h3 j (by omega) hne
  ·have h0:sumTo f n=0:=by omega
   refine ⟨n,by omega,by omega,fun j hj hne=>sumTo_none n h0 j (by omega)⟩
theorem part_cases {M:Nat→Mem} {n:Nat} (ht:Tr M n) {m j:Nat} (hj:j<n) (hne:j≠m) :
  (weightOf M (m:Int) (j:Int)=0∧∀ k,k<n→partB M (m:Int) k=true→weightOf M (k:Int) (j:Int)=0) ∨
  ∃ k0,k0<n∧partB M (m:Int) k0=true∧weightOf M (m:Int) (j:Int)=(M k0).sign*weightOf M (k0:Int) (j:Int)∧∀ k,k<n→partB M (m:Int) k=true→k≠k0→weightOf M (k:Int) (j:Int)=0:=by
 have hs:=steps_one ht (i:=m) (j+1) j hj (by omega)
 have hd:decide (j=m)=false:=decide_eq_false hne
 rw [hd] at hs
 cases hin:inB (pathOf M (j:Int)) (m:Int)
 ·left
  rw [hin] at hs
  have h0:sumTo (fun p=>one (partB M m p && inB (pathOf M j) p)) n=0:=hs
  refine ⟨wgt_out _ (inB_false.1 hin) _,fun k hk hp=>wgt_out _ (inB_false.1 ?_) _⟩
  have:=sumTo_none n h0 k hk
  simp only [hp,Bool.true_and] at this
  cases h:inB (pathOf M (j:Int)) (k:Int)
  ·rfl
  ·rw [h] at this;cases this
 ·right
  rw [hin] at hs
  have h1:sumTo (fun p=>one (partB M m p && inB (pathOf M j) p)) n=1:=hs
  obtain ⟨k0,hk0,h2,h3⟩:=sumTo_only n h1
  have h4:partB M (m:Int) k0=true∧inB (pathOf M (j:Int)) (k0:Int)=true:=by
   cases ha:partB M (m:Int) k0
   ·simp [ha,one] at h2
   ·cases hb:inB (pathOf M (j:Int)) (k0:Int)
    ·simp [hb,one] at h2
    ·exact ⟨rfl,rfl⟩
  refine ⟨k0,hk0,h4.1,?_,fun k hk hp hne=>wgt_out _ (inB_false.1 ?_) _⟩
  ·rw [Int.mul_comm]
   exact part_weight ht hk0 (by simpa [partB] using h4.1) (j+1) j 1 hj (by omega) (inB_true.1 h4.2)
  ·have:=h3 k hk hne
   simp only [hp,Bool.true_and] at this
   cases h:inB (pathOf M (j:Int)) (k:Int)
   ·rfl
   ·rw [h] at this;cases this
end Go.Proofs.YtnegjdcedhnjdaaGreatDoor
