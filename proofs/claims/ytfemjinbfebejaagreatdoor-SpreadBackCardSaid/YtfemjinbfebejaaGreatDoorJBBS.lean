/-
  What tallylaw4.letters and tallylaw4.flat answer, called in whatever memory: two letters; a dim of a whole and so many parts, in new memory.
-/
import Derived.OneCell
import Derived.Test.YtfemjinbfebejaaGreatDoorJBAP
namespace Go.Proofs.YtfemjinbfebejaaGreatDoor
open Go.ChangeShapes Go.WideShapes Go.ChangeAt Go.RowKit
set_option maxRecDepth 20000
set_option maxHeartbeats 4000000 in
theorem lettF_any (k:Nat) (w:World) (hk:k<12):Calls Tryz.prog 6 #[.int .i64 k] w fun e w'=>e=.returned (.string (lettF k))∧Below w.heap.size w w':=by
 rcases (show k=0∨k=1∨k=2∨k=3∨k=4∨k=5∨k=6∨k=7∨k=8∨k=9∨k=10∨k=11 by omega) with rfl | rfl | rfl | rfl | rfl | rfl | rfl | rfl | rfl | rfl | rfl | rfl
 all_goals go_enter Tryz.func6,Tryz.ntmps6
 all_goals go_wp2_with fail
 all_goals go_quiet (fail)
 all_goals go_wp2_with fail
 all_goals go_ret
 all_goals exact ⟨rfl,below_drewN (Below.refl _ _) _⟩
theorem Tryz.infoMemF:(Tryz.prog.info? 43).map (fun i=>(i.zero,i.size,i.bytes))=some (some (.agg #[.string ⟨#[]⟩,.int .i64 0,.int .i64 0,.string ⟨#[]⟩]),4,48):=by kernel_rfl
def cellsF:Nat→List Value
 | 0=>[.string ⟨#[97,108,108]⟩,.int .i64 (-1),.int .i64 0,.string ⟨#[]⟩]
 | k+1=>cellsF k ++ [.string (lettF k),.int .i64 0,.int .i64 1,.string ⟨#[]⟩]
theorem cellsF_len (k:Nat):(cellsF k).length=(k+1)*4:=by
 induction k with
 | zero=>rfl
 | succ k ih=>rw [cellsF,List.length_append,ih];simp;omega
theorem cellsF_at (n:Nat):∀ k,k<n+1→(cellsF n)[k*4]?=some (.string (flatM k).name)∧(cellsF n)[k*4+1]?=some (.int .i64 (flatM k).parent)∧(cellsF n)[k*4+2]?=some (.int .i64 (flatM k).sign)∧(cellsF n)[k*4+3]?=some (.string (flatM k).formula):=by
 induction n with
 | zero =>
  intro k h
  have h0:k=0:=by omega
  subst h0
  exact ⟨rfl,rfl,rfl,rfl⟩
 | succ n ih =>
  intro k hk
  rw [cellsF]
  have hl:=cellsF_len n
  by_cases h:k=n+1
  ·subst h
   refine ⟨?_,?_,?_,?_⟩ <;> rw [List.getElem?_append_right (by omega),hl]
   ·rw [Nat.sub_self];rfl
   ·rw [show (n+1)*4+1-(n+1)*4=1 by omega];rfl
   ·rw [show (n+1)*4+2-(n+1)*4=2 by omega];rfl
   ·rw [show (n+1)*4+3-(n+1)*4=3 by omega];rfl
  ·have:=ih k (by omega)
   refine ⟨?_,?_,?_,?_⟩ <;> rw [List.getElem?_append_left (by omega)]
   ·exact this.1
   ·exact this.2.1
   ·exact this.2.2.1
   ·exact this.2.2.2
def MemB (w:World) (g n:Nat):Prop:=(∃ cur,w.heap[g]?=some (.cells cur 43 (0,0)))∧MemsAt w g 0 n flatM
theorem mems_same {w w':World} {g n:Nat} {M:Nat→Mem} (h:MemsAt w g 0 n M) (he:w'.heap[g]?=w.heap[g]?):MemsAt w' g 0 n M:=by
 have hc:∀ j,w'.cell? ⟨g,j,none⟩=w.cell? ⟨g,j,none⟩:=fun j=>World.cell?_of_block (w:=w) he
 refine ⟨?_,fun i hi=>?_⟩
 ·have h1:=h.1
  rw [Array.getElem?_eq_getElem h1] at he
  exact (Array.getElem?_eq_some_iff.1 he).1
 ·obtain ⟨a,b,c,d⟩:=h.2 i hi
  exact ⟨(hc _).trans a,(hc _).trans b,(hc _).trans c,(hc _).trans d⟩
theorem MemB.same {w w':World} {g n:Nat} (h:MemB w g n) (he:w'.heap[g]?=w.heap[g]?):MemB w' g n:=by
 obtain ⟨⟨cur,h1⟩,h2⟩:=h
 exact ⟨⟨cur,he.trans h1⟩,mems_same h2 he⟩
theorem MemB.lt {w:World} {g n:Nat} (h:MemB w g n):g<w.heap.size:=h.2.1
theorem MemB.later {w w':World} {g n:Nat} (h:MemB w g n) (hB:Below w.heap.size w w'):MemB w' g n:=h.same (hB.block g h.lt)
theorem flat_mems {w:World} {base:Nat} {v:Value} {n:Nat} (h:w.ownsRow base 43 4 v (n+1) (cellsF n)):∃ g cap,v=.slice (some ⟨g,0,none⟩) (n+1) cap∧n+1≤cap∧base≤g∧MemB w g (n+1):=by
 rcases h.2 with ⟨rfl,h0⟩ | ⟨g,cap,cur,rfl,hb,hg,hc,_,_,_⟩
 ·omega
 ·refine ⟨g,cap,rfl,hc,hb,⟨cur,hg⟩,(Array.getElem?_eq_some_iff.1 hg).1,fun j hj=>?_⟩
  have hadd:∀ j,(⟨g,0,none⟩:Addr).add j=⟨g,j,none⟩:=fun j=>by unfold Addr.add;split <;> simp_all
  obtain ⟨x0,x1,x2,x3⟩:=cellsF_at n j hj
  have y:=fun j u=>h.cells (g:=g) rfl j u
  simp only [hadd] at y
  simp only [Nat.zero_add]
  exact ⟨y _ _ x0,y _ _ x1,y _ _ x2,y _ _ x3⟩
theorem own_ne {w:World} {B e T size:Nat} {v:Value} {n:Nat} {xs:List Value} {b:Nat} {cs:Array Value} {fr:Nat×Nat} (hown:w.ownsRow B e size v n xs) (hb:w.heap[b]?=some (.cells cs T fr)) (hTe:T≠e):v.ownBlock≠some b:=by
 rcases hown.2 with ⟨rfl,_⟩ | ⟨g,cap,cur,rfl,_,hg,_⟩
 ·simp [Value.ownBlock]
 ·intro h
  simp only [Value.ownBlock,Option.some.injEq] at h
  subst h
  rw [hg] at hb
  simp only [Option.some.injEq,Obj.cells.injEq] at hb
  exact hTe hb.2.1.symm
theorem own_stays {w w':World} {base e size:Nat} {v:Value} {n:Nat} {xs:List Value} (h:w.ownsRow base e size v n xs) (hB:Below w.heap.size w w'):w'.ownsRow base e size v n xs:=by
 refine ⟨h.1,?_⟩
 rcases h.2 with h0 | ⟨g,cap,cur,rfl,hb,hg,h1⟩
 ·exact Or.inl h0
 ·exact Or.inr ⟨g,cap,cur,rfl,hb,(hB.block g (Array.getElem?_eq_some_iff.1 hg).1).trans hg,h1⟩
def FlatAt (w:World) (s:ByteArray) (k:Nat) (v:Value) (wr:World):Prop :=
 wr.ownsRow w.heap.size 43 4 v (k+1) (cellsF k)∧wr.heap[w.heap.size+2]?=some (.cells #[.string s,.int .i64 0,v] 25 (0,0))∧wr.heap[w.heap.size]?=some (.cells #[.string ⟨#[]⟩,.int .i64 0,.slice none 0 0] 25 (0,0))∧Below w.heap.size w wr
theorem dim_ne_mem:(25:Nat)≠43:=by decide
theorem FlatAt.sz {w:World} {s:ByteArray} {k:Nat} {v:Value} {wr:World} (h:FlatAt w s k v wr):w.heap.size+2<wr.heap.size:=(Array.getElem?_eq_some_iff.1 h.2.1).1
theorem flat_step {w wr wa w1:World} {s:ByteArray} {k:Nat} {v v':Value} (h:FlatAt w s k v wr) (hb:Below wr.heap.size wr wa)
  (hown:w1.ownsRow w.heap.size 43 4 v' (k+1+1) (cellsF k ++ [.string (lettF k),.int .i64 0,.int .i64 1,.string ⟨#[]⟩])) (hgrow:wa.grownBy w1 v.ownBlock):FlatAt w s (k+1) v' (w1.setCell ⟨w.heap.size+2,2,none⟩ v'):=by
 have hsz:=h.sz
 obtain ⟨h1,h2,h3,hB⟩:=h
 have n2:=own_ne h1 h2 dim_ne_mem
 have n0:=own_ne h1 h3 dim_ne_mem
 have e2:w1.heap[w.heap.size+2]?=wr.heap[w.heap.size+2]?:=(hgrow.block _ (Nat.lt_of_lt_of_le hsz hb.size) (fun e=>n2 e.symm)).trans (hb.block _ hsz)
 have e0:w1.heap[w.heap.size]?=wr.heap[w.heap.size]?:=(hgrow.block _ (Nat.lt_of_lt_of_le (by omega) hb.size) (fun e=>n0 e.symm)).trans (hb.block _ (by omega))
 refine ⟨ownsRow_setCell_other hown (own_ne hown (e2.trans h2) dim_ne_mem) _,?_,?_,?_⟩
 ·simp [World.setCell,Array.getElem?_modify,e2,h2]
 ·rw [Below.heap_setCell _ _ _ _ (by show w.heap.size≠w.heap.size+2;omega),e0];exact h3
 ·exact ((onB hB hb).grown hgrow (by have:=hB.size;have:=hb.size;omega) (fun j hj=>(h1.lt j hj).1)).setCell (by show w.heap.size≤w.heap.size+2;omega) _
def FlatW (w:World) (s:ByteArray):World:=((w.alloc (.cells #[.string ⟨#[]⟩,.int .i64 0,.slice none 0 0] 25)).alloc (.cells #[.string ⟨#[97,108,108]⟩,.int .i64 (-1),.int .i64 0,.string ⟨#[]⟩] 43)).alloc (.cells #[.string s,.int .i64 0,.slice (some ⟨w.heap.size+1,0,none⟩) 1 1] 25)
theorem flat_start (w:World) (s:ByteArray):FlatAt w s 0 (.slice (some ⟨w.heap.size+1,0,none⟩) 1 1) (FlatW w s):=by
 unfold FlatW
 refine ⟨⟨rfl,Or.inr ⟨w.heap.size+1,1,#[.string ⟨#[97,108,108]⟩,.int .i64 (-1),.int .i64 0,.string ⟨#[]⟩],rfl,by omega,?_,Nat.le_refl _,by decide,rfl,rfl⟩⟩,?_,?_,by go_grown⟩
 ·rw [Below.heap_alloc _ _ _ (by simp)]
  have:=heap_alloc_new (w.alloc (.cells #[.string ⟨#[]⟩,.int .i64 0,.slice none 0 0] 25)) (.cells #[.string ⟨#[97,108,108]⟩,.int .i64 (-1),.int .i64 0,.string ⟨#[]⟩] 43)
  simpa using this
 ·have:=heap_alloc_new ((w.alloc (.cells #[.string ⟨#[]⟩,.int .i64 0,.slice none 0 0] 25)).alloc (.cells #[.string ⟨#[97,108,108]⟩,.int .i64 (-1),.int .i64 0,.string ⟨#[]⟩] 43)) (.cells #[.string s,.int .i64 0,.slice (some ⟨w.heap.size+1,0,none⟩) 1 1] 25)
  simpa using this
 ·rw [Below.heap_alloc _ _ _ (by simp;omega),Below.heap_alloc _ _ _ (by simp)]
  exact heap_alloc_new w _
set_option maxHeartbeats 8000000 in
theorem flat_any (s:ByteArray) (n:Nat) (w:World) (hn:n≤12):Calls Tryz.prog 4 #[.string s,.int .i64 n] w fun e w'=>(∃ g cap,e=.returned (.agg #[.string s,.int .i64 0,.slice (some ⟨g,0,none⟩) (n+1) cap])∧n+1≤cap∧w.heap.size≤g∧MemB w' g (n+1))∧Below w.heap.size w w':=by
 obtain ⟨i0,hi0,hz0,hz1,hz2⟩:=info_parts Tryz.infoMemF
 have hn':(n:Int)≤12:=by omega
 have HL0:Hid (FlatAt w s 0 (.slice (some ⟨w.heap.size+1,0,none⟩) 1 1) (FlatW w s)):=flat_start w s
 go_enter Tryz.func4,Tryz.ntmps4
 go_wp2_with fail
 go_loopg [6] n (fun g s6 wr => ∃ (k:Nat) (v:Value),k≤n∧g=n-k∧s6=.int .i64 k∧FlatAt w s k v wr)
 case atStart=>exact ⟨0,_,Nat.zero_le _,rfl,rfl,HL0.out⟩
 case round =>
  obtain ⟨k,v,hk,rfl,rfl,hrel⟩:=hrel
  have HR:Hid (FlatAt w s k v wr):=hrel
  have hqr:=hrel.sz
  by_cases hlt:k<n
  ·have hki:(k:Int)<(n:Int):=by omega
   obtain ⟨hown,h2,h3,hB⟩:=hrel
   have HO:Hid (wr.ownsRow w.heap.size 43 4 v (k+1) (cellsF k)):=hown
   have c2:wr.cell? ⟨w.heap.size+2,2,none⟩=some v:=by rw [Lib.cell_of_heap h2];rfl
   have c3:wr.frozen? ⟨w.heap.size+2,2,none⟩=false:=Lib.frozen_of_heap h2 2
   have HC:Hid (∀ w',Below wr.heap.size wr w'→w'.cell? ⟨w.heap.size+2,2,none⟩=some v∧w'.frozen? ⟨w.heap.size+2,2,none⟩=false):=fun w' hw'=>⟨(hw'.cell (p:=⟨w.heap.size+2,2,none⟩) hqr).trans c2,(hw'.frozen (p:=⟨w.heap.size+2,2,none⟩) hqr).trans c3⟩
   have HLt:Hid (∀ w',Calls Tryz.prog 6 #[.int .i64 k] w' fun e w''=>e=.returned (.string (lettF k))∧Below w'.heap.size w' w''):=fun w'=>lettF_any k w' (by omega)
   have HNE:Hid (some (w.heap.size+2)≠v.ownBlock):=fun e=>own_ne hown h2 dim_ne_mem e.symm
   clear hB hown h2 h3
   go_wp2_with fail
   go_region_law ((first
     | (refine step_append_lies _ (by rfl) _ _ _ (by rfl) w.heap.size 43 i0 _ 4 48 Tryz.underlying23 hi0 hz0 hz1 hz2 rfl (by omega) v (k+1) (cellsF k) (by rfl) (own_stays HO.out (by go_grown)) ⟨w4.heap.size,0,none⟩ 1 1 [.string (lettF k),.int .i64 0,.int .i64 1,.string ⟨#[]⟩] (by rfl) (by rfl) (World.news_of_block (cs := #[.string (lettF k),.int .i64 0,.int .i64 1,.string ⟨#[]⟩]) (t:=43) (fr:=(0,0)) (heap_alloc_new w4 _)) (by simp [Value.oneCell']) (by omega) (by unfold maxLen;omega) (by omega) (by simp;omega) (w4.heap.size+1) (by simp) ?_;intro gg cg w6 hown6 hgrow hat hlt6;have y1:=(hgrow.cell_far ⟨w.heap.size+2,2,none⟩ (by simp;omega) HNE.out).trans (HC.out _ (by go_grown)).1;have y2:=(hgrow.frozen_far ⟨w.heap.size+2,2,none⟩ (by simp;omega) HNE.out).trans (HC.out _ (by go_grown)).2)
     | (go_simp;refine (HLt.out _).mono ?_;rintro e w4 ⟨rfl,hb4⟩;have hN4:=onB (W0:=wr) (by go_grown) hb4;have hs4:=hN4.size;obtain ⟨x1,x2⟩:=HC.out _ hN4;have hq4:w.heap.size+2<w4.heap.size:=Nat.lt_of_lt_of_le hqr hs4;clear hb4)))
   all_goals (have HS:=flat_step HR.out (by go_grown) hown6 hgrow)
   all_goals clear hown6 hgrow
   all_goals go_wp2_with fail
   all_goals go_roundg (n-(k+1))
   all_goals first | omega | exact ⟨k+1,_,by omega,rfl,by go_num,HS⟩
  ·have hke:n=k:=by omega
   subst hke
   obtain ⟨hown,h2,h3,hB⟩:=hrel
   have c0:wr.cell? ⟨w.heap.size+2,0,none⟩=some (.string s):=by rw [Lib.cell_of_heap h2];rfl
   have c1:wr.cell? ⟨w.heap.size+2,1,none⟩=some (.int .i64 0):=by rw [Lib.cell_of_heap h2];rfl
   have c2:wr.cell? ⟨w.heap.size+2,2,none⟩=some v:=by rw [Lib.cell_of_heap h2];rfl
   have d0:wr.cell? ⟨w.heap.size,0,none⟩=some (.string ⟨#[]⟩):=by rw [Lib.cell_of_heap h3];rfl
   have d1:wr.cell? ⟨w.heap.size,1,none⟩=some (.int .i64 0):=by rw [Lib.cell_of_heap h3];rfl
   have d2:wr.cell? ⟨w.heap.size,2,none⟩=some (.slice none 0 0):=by rw [Lib.cell_of_heap h3];rfl
   have f0:=Lib.frozen_of_heap h3 0
   have f1:=Lib.frozen_of_heap h3 1
   have f2:=Lib.frozen_of_heap h3 2
   obtain ⟨g,cap,rfl,hc,hg,hMB⟩:=flat_mems hown
   have HF:Hid (FlatAt w s n (.slice (some ⟨g,0,none⟩) (n+1) cap) wr):=⟨hown,h2,h3,hB⟩
   have HMB:Hid (MemB wr g (n+1)):=hMB
   clear hown h2 h3 hB hMB HR HL0
   go_wp2_with fail
   have hne:g≠w.heap.size:=fun e=>own_ne HF.out.1 HF.out.2.2.1 dim_ne_mem (by show some g=_;rw [e])
   refine bodyPost_ret (v:=.agg #[.string s,.int .i64 0,.slice (some ⟨g,0,none⟩) (n+1) cap]) (by simp [results,Tryz.results4,go_sem,d0,d1,d2]) rfl ⟨⟨g,cap,rfl,hc,hg,HMB.out.same ?_⟩,?_⟩
   ·rw [Below.heap_setCell _ _ _ _ hne,Below.heap_setCell _ _ _ _ hne,Below.heap_setCell _ _ _ _ hne]
   ·exact ((HF.out.2.2.2.setCell (Nat.le_refl _) _).setCell (Nat.le_refl _) _).setCell (Nat.le_refl _) _
end Go.Proofs.YtfemjinbfebejaaGreatDoor
