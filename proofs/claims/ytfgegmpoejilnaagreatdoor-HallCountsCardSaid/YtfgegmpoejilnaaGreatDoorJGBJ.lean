/-
  What package tree tells, as plain functions on plain data: the path of a member, its parts, its leafs, how a leaf counts in a member, how long paths are; and small facts on them.
-/
import Derived.Test.YtfgegmpoejilnaaGreatDoorJGBI
namespace Go.Proofs.YtfgegmpoejilnaaGreatDoor
theorem selTo_congr {p q:Nat→Bool} {k:Nat} (h:∀ j,j<k→p j=q j):selTo p k=selTo q k:=by
 induction k with
 | zero=>rfl
 | succ k ih=>rw [selTo,selTo,ih fun j hj=>h j (by omega),h k (by omega)]
theorem roll_more {D:Nat→Dm} {n:Nat} {l:List En} {q:List Int} (h:hasE l q=false) (p:List Int) (x:Int) :
  (cntR D n p ⟨q,x⟩=true→rollV D n (setL l q x) p=(1,(rollV D n l p).2+pwTo D p q n*x))∧(cntR D n p ⟨q,x⟩=false→rollV D n (setL l q x) p=rollV D n l p):=by
 have e1:setL l q x=l.take (cntE l q) ++ ⟨q,x⟩ :: l.drop (cntE l q):=by unfold setL;rw [h];rfl
 have e2:l=l.take (cntE l q) ++ l.drop (cntE l q):=(List.take_append_drop _ _).symm
 have n1:rollN D n p (setL l q x)=rollN D n p l+(if cntR D n p ⟨q,x⟩=true then valR D n p ⟨q,x⟩ else 0):=by
  rw [e1,rollN_append,rollN]
  conv=>rhs;rw [e2,rollN_append]
  omega
 have k1:(setL l q x).any (cntR D n p)=(l.any (cntR D n p) || cntR D n p ⟨q,x⟩):=by
  rw [e1,List.any_append,List.any_cons]
  conv=>rhs;rw [e2,List.any_append]
  cases (l.take (cntE l q)).any (cntR D n p) <;> cases (l.drop (cntE l q)).any (cntR D n p) <;> cases cntR D n p ⟨q,x⟩ <;> rfl
 unfold rollV rollK
 refine ⟨fun hc=>?_,fun hc=>?_⟩
 ·rw [n1,k1,hc]
  simp [valR]
 ·rw [n1,k1,hc]
  simp
end Go.Proofs.YtfgegmpoejilnaaGreatDoor
namespace Go.Proofs.YtfgegmpoejilnaaGreatDoor
open Go.ChangeShapes Go.WideShapes Go.ChangeAt Go.RowKit
set_option maxRecDepth 20000
section
variable {D:Nat→Dm} {n:Nat}
theorem do_one {l:List En} (hl:Ens D n l) {x:Ed} (h:editErr D n l x=0):doE D n l [x]=0∧doL D n l [x]=editV l x:=by
 have e:editsV D n l [x]=(editV l x,0,0):=by
  unfold editsV
  rw [if_neg (by simp),if_neg (by simpa using hl.ok),editsFrom_ok _ h]
  rfl
 have e2:doE D n l [x]=0:=by unfold doE;rw [e]
 exact ⟨e2,by unfold doL;rw [if_pos e2,e]⟩
end
end Go.Proofs.YtfgegmpoejilnaaGreatDoor
namespace Go.Proofs.YtfgegmpoejilnaaGreatDoor
theorem square_all:∀ n:Fin 11,(allErr (squareD n.val) 2).2.2=0∧prodN (squareD n.val) 2=(n.val+1)*(n.val+1):=by decide +kernel
end Go.Proofs.YtfgegmpoejilnaaGreatDoor
namespace Go.Proofs.YtfgegmpoejilnaaGreatDoor
open Go.ChangeShapes Go.WideShapes Go.ChangeAt Go.RowKit
set_option maxRecDepth 20000
theorem sq_dim:∀ n:Fin 10,∀ i:Fin 2,dimErr (squareD n.val i.val)=(-1,0):=by decide +kernel
theorem sq_mem:∀ n:Fin 10,∀ i:Fin 2,∀ j:Fin 10,j.val<n.val+1→mErr (squareD n.val i.val) j.val=0:=by decide +kernel
theorem sq_ndl:∀ n:Fin 10,∀ i:Fin 2,(ndL (squareD n.val i.val)).length=n.val+1:=by decide +kernel
theorem sq_ndr:∀ n:Fin 10,∀ i:Fin 2,∀ a:Fin 10,(((ndL (squareD n.val i.val)).getD a.val []).all fun x=>decide ((a.val:Int)<x))=true:=by decide +kernel
theorem sq_err {n i:Nat} (hn:n≤9) (hi:i<2):rErr (squareD n i)=(-1,0):=re3 (by rw [sq_dim ⟨n,by omega⟩ ⟨i,hi⟩]) (fun j hj=>sq_mem ⟨n,by omega⟩ ⟨i,hi⟩ ⟨j,by have:j<n+1:=hj;omega⟩ hj) fun j _=>by
 refine up_acyc (fun a x hx=>?_) j
 unfold rowN at hx
 have hl:=sq_ndl ⟨n,by omega⟩ ⟨i,hi⟩
 by_cases ha:a.toNat<n+1
 ·have h:=List.all_eq_true.1 (sq_ndr ⟨n,by omega⟩ ⟨i,hi⟩ ⟨a.toNat,by omega⟩) x hx
  have h':((a.toNat:Nat):Int)<x:=by simpa using h
  omega
 ·rw [List.getD_eq_getElem?_getD,List.getElem?_eq_none (by rw [show (ndL (squareD n i)).length=n+1 from hl];omega)] at hx
  cases hx
theorem sq_cube {n:Nat} (hn:n≤9):(ruErr (squareD n) 2).2.2=0∧cuErr (squareD n) 2 []=0:=by
 obtain ⟨h1,-⟩:=square_all ⟨n,by omega⟩
 have hr:(ruErr (squareD n) 2).2.2=0:=ru_zero h1 fun i hi=>by rw [sq_err hn hi]
 refine ⟨hr,?_⟩
 unfold cuErr
 rw [hr,if_neg (by simp)]
 exact Ens.ok ⟨h1,fun e he=>(by cases he),List.Pairwise.nil⟩
set_option maxHeartbeats 4000000 in
theorem lettF_any (k:Nat) (w:World) (hk:k<12):Calls Tryz.prog 60 #[.int .i64 k] w fun e w'=>e=.returned (.string (lettF k))∧Below w.heap.size w w':=by
 rcases (show k=0∨k=1∨k=2∨k=3∨k=4∨k=5∨k=6∨k=7∨k=8∨k=9∨k=10∨k=11 by omega) with rfl | rfl | rfl | rfl | rfl | rfl | rfl | rfl | rfl | rfl | rfl | rfl
 all_goals go_enter Tryz.func60,Tryz.ntmps60
 all_goals go_wp2_with fail
 all_goals go_quiet (fail)
 all_goals go_wp2_with fail
 all_goals go_ret
 all_goals exact ⟨rfl,below_drewN (Below.refl _ _) _⟩
theorem Tryz.infoMemF:(Tryz.prog.info? 27).map (fun i=>(i.zero,i.size,i.bytes))=some (some (.agg #[.string ⟨#[]⟩,.int .i64 0,.int .i64 0,.string ⟨#[]⟩]),4,48):=by kernel_rfl
def cellsF:Nat→List Value
 | 0=>[.string ⟨#[97,108,108]⟩,.int .i64 (-1),.int .i64 0,.string ⟨#[]⟩]
 | k+1=>cellsF k ++ [.string (lettF k),.int .i64 0,.int .i64 1,.string ⟨#[]⟩]
theorem cellsF_len (k:Nat):(cellsF k).length=(k+1)*4:=by
 induction k with
 | zero=>rfl
 | succ k ih=>rw [cellsF,List.length_append,ih];simp;omega
theorem cellsF_at (n:Nat):∀ k,k<n+1→(cellsF n)[k*4]?=some (.string (flatM k).name)∧(cellsF n)[k*4+1]?=some (.int .i64 (flatM k).parent)∧(cellsF n)[k*4+2]?=some (.int .i64 (flatM k).sign)∧(cellsF n)[k*4+3]?=some (.string (flatM k).formula):=by
 induction n with
 | zero =>
  intro k h
  have h0:k=0:=by omega
  subst h0
  exact ⟨rfl,rfl,rfl,rfl⟩
 | succ n ih =>
  intro k hk
  rw [cellsF]
  have hl:=cellsF_len n
  by_cases h:k=n+1
  ·subst h
   refine ⟨?_,?_,?_,?_⟩ <;> rw [List.getElem?_append_right (by omega),hl]
   ·rw [Nat.sub_self];rfl
   ·rw [show (n+1)*4+1-(n+1)*4=1 by omega];rfl
   ·rw [show (n+1)*4+2-(n+1)*4=2 by omega];rfl
   ·rw [show (n+1)*4+3-(n+1)*4=3 by omega];rfl
  ·have:=ih k (by omega)
   refine ⟨?_,?_,?_,?_⟩ <;> rw [List.getElem?_append_left (by omega)]
   ·exact this.1
   ·exact this.2.1
   ·exact this.2.2.1
   ·exact this.2.2.2
def MemB (w:World) (g n:Nat):Prop:=(∃ cur,w.heap[g]?=some (.cells cur 27 (0,0)))∧MemsAt w g 0 n flatM
theorem mems_same {w w':World} {g n:Nat} {M:Nat→Mem} (h:MemsAt w g 0 n M) (he:w'.heap[g]?=w.heap[g]?):MemsAt w' g 0 n M:=by
 have hc:∀ j,w'.cell? ⟨g,j,none⟩=w.cell? ⟨g,j,none⟩:=fun j=>World.cell?_of_block (w:=w) he
 refine ⟨?_,fun i hi=>?_⟩
 ·have h1:=h.1
  rw [Array.getElem?_eq_getElem h1] at he
  exact (Array.getElem?_eq_some_iff.1 he).1
 ·obtain ⟨a,b,c,d⟩:=h.2 i hi
  exact ⟨(hc _).trans a,(hc _).trans b,(hc _).trans c,(hc _).trans d⟩
theorem MemB.same {w w':World} {g n:Nat} (h:MemB w g n) (he:w'.heap[g]?=w.heap[g]?):MemB w' g n:=by
 obtain ⟨⟨cur,h1⟩,h2⟩:=h
 exact ⟨⟨cur,he.trans h1⟩,mems_same h2 he⟩
theorem MemB.lt {w:World} {g n:Nat} (h:MemB w g n):g<w.heap.size:=h.2.1
theorem MemB.later {w w':World} {g n:Nat} (h:MemB w g n) (hB:Below w.heap.size w w'):MemB w' g n:=h.same (hB.block g h.lt)
theorem flat_mems {w:World} {base:Nat} {v:Value} {n:Nat} (h:w.ownsRow base 27 4 v (n+1) (cellsF n)):∃ g cap,v=.slice (some ⟨g,0,none⟩) (n+1) cap∧n+1≤cap∧base≤g∧MemB w g (n+1):=by
 rcases h.2 with ⟨rfl,h0⟩ | ⟨g,cap,cur,rfl,hb,hg,hc,_,_,_⟩
 ·omega
 ·refine ⟨g,cap,rfl,hc,hb,⟨cur,hg⟩,(Array.getElem?_eq_some_iff.1 hg).1,fun j hj=>?_⟩
  have hadd:∀ j,(⟨g,0,none⟩:Addr).add j=⟨g,j,none⟩:=fun j=>by unfold Addr.add;split <;> simp_all
  obtain ⟨x0,x1,x2,x3⟩:=cellsF_at n j hj
  have y:=fun j u=>h.cells (g:=g) rfl j u
  simp only [hadd] at y
  simp only [Nat.zero_add]
  exact ⟨y _ _ x0,y _ _ x1,y _ _ x2,y _ _ x3⟩
theorem own_stays {w w':World} {base e size:Nat} {v:Value} {n:Nat} {xs:List Value} (h:w.ownsRow base e size v n xs) (hB:Below w.heap.size w w'):w'.ownsRow base e size v n xs:=by
 refine ⟨h.1,?_⟩
 rcases h.2 with h0 | ⟨g,cap,cur,rfl,hb,hg,h1⟩
 ·exact Or.inl h0
 ·exact Or.inr ⟨g,cap,cur,rfl,hb,(hB.block g (Array.getElem?_eq_some_iff.1 hg).1).trans hg,h1⟩
def FlatAt (w:World) (s:ByteArray) (k:Nat) (v:Value) (wr:World):Prop :=
 wr.ownsRow w.heap.size 27 4 v (k+1) (cellsF k)∧wr.heap[w.heap.size+2]?=some (.cells #[.string s,.int .i64 0,v] 30 (0,0))∧wr.heap[w.heap.size]?=some (.cells #[.string ⟨#[]⟩,.int .i64 0,.slice none 0 0] 30 (0,0))∧Below w.heap.size w wr
theorem dim_ne_mem:(30:Nat)≠27:=by decide
theorem FlatAt.sz {w:World} {s:ByteArray} {k:Nat} {v:Value} {wr:World} (h:FlatAt w s k v wr):w.heap.size+2<wr.heap.size:=(Array.getElem?_eq_some_iff.1 h.2.1).1
theorem flat_step {w wr wa w1:World} {s:ByteArray} {k:Nat} {v v':Value} (h:FlatAt w s k v wr) (hb:Below wr.heap.size wr wa)
  (hown:w1.ownsRow w.heap.size 27 4 v' (k+1+1) (cellsF k ++ [.string (lettF k),.int .i64 0,.int .i64 1,.string ⟨#[]⟩])) (hgrow:wa.grownBy w1 v.ownBlock):FlatAt w s (k+1) v' (w1.setCell ⟨w.heap.size+2,2,none⟩ v'):=by
 have hsz:=h.sz
 obtain ⟨h1,h2,h3,hB⟩:=h
 have n2:=own_ne h1 h2 dim_ne_mem
 have n0:=own_ne h1 h3 dim_ne_mem
 have e2:w1.heap[w.heap.size+2]?=wr.heap[w.heap.size+2]?:=(hgrow.block _ (Nat.lt_of_lt_of_le hsz hb.size) (fun e=>n2 e.symm)).trans (hb.block _ hsz)
 have e0:w1.heap[w.heap.size]?=wr.heap[w.heap.size]?:=(hgrow.block _ (Nat.lt_of_lt_of_le (by omega) hb.size) (fun e=>n0 e.symm)).trans (hb.block _ (by omega))
 refine ⟨ownsRow_setCell_other hown (own_ne hown (e2.trans h2) dim_ne_mem) _,?_,?_,?_⟩
 ·simp [World.setCell,Array.getElem?_modify,e2,h2]
 ·rw [Below.heap_setCell _ _ _ _ (by show w.heap.size≠w.heap.size+2;omega),e0];exact h3
 ·exact ((onB hB hb).grown hgrow (by have:=hB.size;have:=hb.size;omega) (fun j hj=>(h1.lt j hj).1)).setCell (by show w.heap.size≤w.heap.size+2;omega) _
def FlatW (w:World) (s:ByteArray):World:=((w.alloc (.cells #[.string ⟨#[]⟩,.int .i64 0,.slice none 0 0] 30)).alloc (.cells #[.string ⟨#[97,108,108]⟩,.int .i64 (-1),.int .i64 0,.string ⟨#[]⟩] 27)).alloc (.cells #[.string s,.int .i64 0,.slice (some ⟨w.heap.size+1,0,none⟩) 1 1] 30)
theorem flat_start (w:World) (s:ByteArray):FlatAt w s 0 (.slice (some ⟨w.heap.size+1,0,none⟩) 1 1) (FlatW w s):=by
 unfold FlatW
 refine ⟨⟨rfl,Or.inr ⟨w.heap.size+1,1,#[.string ⟨#[97,108,108]⟩,.int .i64 (-1),.int .i64 0,.string ⟨#[]⟩],rfl,by omega,?_,Nat.le_refl _,by decide,rfl,rfl⟩⟩,?_,?_,by go_grown⟩
 ·rw [Below.heap_alloc _ _ _ (by simp)]
  have:=heap_alloc_new (w.alloc (.cells #[.string ⟨#[]⟩,.int .i64 0,.slice none 0 0] 30)) (.cells #[.string ⟨#[97,108,108]⟩,.int .i64 (-1),.int .i64 0,.string ⟨#[]⟩] 27)
  simpa using this
 ·have:=heap_alloc_new ((w.alloc (.cells #[.string ⟨#[]⟩,.int .i64 0,.slice none 0 0] 30)).alloc (.cells #[.string ⟨#[97,108,108]⟩,.int .i64 (-1),.int .i64 0,.string ⟨#[]⟩] 27)) (.cells #[.string s,.int .i64 0,.slice (some ⟨w.heap.size+1,0,none⟩) 1 1] 30)
  simpa using this
 ·rw [Below.heap_alloc _ _ _ (by simp;omega),Below.heap_alloc _ _ _ (by simp)]
  exact heap_alloc_new w _
set_option maxHeartbeats 8000000 in
theorem flat_any (s:ByteArray) (n:Nat) (w:World) (hn:n≤12):Calls Tryz.prog 32 #[.string s,.int .i64 n] w fun e w'=>(∃ g cap,e=.returned (.agg #[.string s,.int .i64 0,.slice (some ⟨g,0,none⟩) (n+1) cap])∧n+1≤cap∧w.heap.size≤g∧MemB w' g (n+1))∧Below w.heap.size w w':=by
 obtain ⟨i0,hi0,hz0,hz1,hz2⟩:=info_parts Tryz.infoMemF
 have hn':(n:Int)≤12:=by omega
 have HL0:Hid (FlatAt w s 0 (.slice (some ⟨w.heap.size+1,0,none⟩) 1 1) (FlatW w s)):=flat_start w s
 go_enter Tryz.func32,Tryz.ntmps32
 go_wp2_with fail
 go_loopg [6] n (fun g s6 wr => ∃ (k:Nat) (v:Value),k≤n∧g=n-k∧s6=.int .i64 k∧FlatAt w s k v wr)
 case atStart=>exact ⟨0,_,Nat.zero_le _,rfl,rfl,HL0.out⟩
 case round =>
  obtain ⟨k,v,hk,rfl,rfl,hrel⟩:=hrel
  have HR:Hid (FlatAt w s k v wr):=hrel
  have hqr:=hrel.sz
  by_cases hlt:k<n
  ·have hki:(k:Int)<(n:Int):=by omega
   obtain ⟨hown,h2,h3,hB⟩:=hrel
   have HO:Hid (wr.ownsRow w.heap.size 27 4 v (k+1) (cellsF k)):=hown
   have c2:wr.cell? ⟨w.heap.size+2,2,none⟩=some v:=by rw [Lib.cell_of_heap h2];rfl
   have c3:wr.frozen? ⟨w.heap.size+2,2,none⟩=false:=Lib.frozen_of_heap h2 2
   have HC:Hid (∀ w',Below wr.heap.size wr w'→w'.cell? ⟨w.heap.size+2,2,none⟩=some v∧w'.frozen? ⟨w.heap.size+2,2,none⟩=false):=fun w' hw'=>⟨(hw'.cell (p:=⟨w.heap.size+2,2,none⟩) hqr).trans c2,(hw'.frozen (p:=⟨w.heap.size+2,2,none⟩) hqr).trans c3⟩
   have HLt:Hid (∀ w',Calls Tryz.prog 60 #[.int .i64 k] w' fun e w''=>e=.returned (.string (lettF k))∧Below w'.heap.size w' w''):=fun w'=>lettF_any k w' (by omega)
   have HNE:Hid (some (w.heap.size+2)≠v.ownBlock):=fun e=>own_ne hown h2 dim_ne_mem e.symm
   clear hB hown h2 h3
   go_wp2_with fail
   go_region_law ((first
     | (refine step_append_lies _ (by rfl) _ _ _ (by rfl) w.heap.size 27 i0 _ 4 48 Tryz.underlying28 hi0 hz0 hz1 hz2 rfl (by omega) v (k+1) (cellsF k) (by rfl) (own_stays HO.out (by go_grown)) ⟨w4.heap.size,0,none⟩ 1 1 [.string (lettF k),.int .i64 0,.int .i64 1,.string ⟨#[]⟩] (by rfl) (by rfl) (World.news_of_block (cs := #[.string (lettF k),.int .i64 0,.int .i64 1,.string ⟨#[]⟩]) (t:=27) (fr:=(0,0)) (heap_alloc_new w4 _)) (by simp [Value.oneCell']) (by omega) (by unfold maxLen;omega) (by omega) (by simp;omega) (w4.heap.size+1) (by simp) ?_;intro gg cg w6 hown6 hgrow hat hlt6;have y1:=(hgrow.cell_far ⟨w.heap.size+2,2,none⟩ (by simp;omega) HNE.out).trans (HC.out _ (by go_grown)).1;have y2:=(hgrow.frozen_far ⟨w.heap.size+2,2,none⟩ (by simp;omega) HNE.out).trans (HC.out _ (by go_grown)).2)
     | (go_simp;refine (HLt.out _).mono ?_;rintro e w4 ⟨rfl,hb4⟩;have hN4:=onB (W0:=wr) (by go_grown) hb4;have hs4:=hN4.size;obtain ⟨x1,x2⟩:=HC.out _ hN4;have hq4:w.heap.size+2<w4.heap.size:=Nat.lt_of_lt_of_le hqr hs4;clear hb4)))
   all_goals (have HS:=flat_step HR.out (by go_grown) hown6 hgrow)
   all_goals clear hown6 hgrow
   all_goals go_wp2_with fail
   all_goals go_roundg (n-(k+1))
   all_goals first | omega | exact ⟨k+1,_,by omega,rfl,by go_num,HS⟩
  ·have hke:n=k:=by omega
   subst hke
   obtain ⟨hown,h2,h3,hB⟩:=hrel
   have c0:wr.cell? ⟨w.heap.size+2,0,none⟩=some (.string s):=by rw [Lib.cell_of_heap h2];rfl
   have c1:wr.cell? ⟨w.heap.size+2,1,none⟩=some (.int .i64 0):=by rw [Lib.cell_of_heap h2];rfl
   have c2:wr.cell? ⟨w.heap.size+2,2,none⟩=some v:=by rw [Lib.cell_of_heap h2];rfl
   have d0:wr.cell? ⟨w.heap.size,0,none⟩=some (.string ⟨#[]⟩):=by rw [Lib.cell_of_heap h3];rfl
   have d1:wr.cell? ⟨w.heap.size,1,none⟩=some (.int .i64 0):=by rw [Lib.cell_of_heap h3];rfl
   have d2:wr.cell? ⟨w.heap.size,2,none⟩=some (.slice none 0 0):=by rw [Lib.cell_of_heap h3];rfl
   have f0:=Lib.frozen_of_heap h3 0
   have f1:=Lib.frozen_of_heap h3 1
   have f2:=Lib.frozen_of_heap h3 2
   obtain ⟨g,cap,rfl,hc,hg,hMB⟩:=flat_mems hown
   have HF:Hid (FlatAt w s n (.slice (some ⟨g,0,none⟩) (n+1) cap) wr):=⟨hown,h2,h3,hB⟩
   have HMB:Hid (MemB wr g (n+1)):=hMB
   clear hown h2 h3 hB hMB HR HL0
   go_wp2_with fail
   have hne:g≠w.heap.size:=fun e=>own_ne HF.out.1 HF.out.2.2.1 dim_ne_mem (by show some g=_;rw [e])
   refine bodyPost_ret (v:=.agg #[.string s,.int .i64 0,.slice (some ⟨g,0,none⟩) (n+1) cap]) (by simp [results,Tryz.results32,go_sem,d0,d1,d2]) rfl ⟨⟨g,cap,rfl,hc,hg,HMB.out.same ?_⟩,?_⟩
   ·rw [Below.heap_setCell _ _ _ _ hne,Below.heap_setCell _ _ _ _ hne,Below.heap_setCell _ _ _ _ hne]
   ·exact ((HF.out.2.2.2.setCell (Nat.le_refl _) _).setCell (Nat.le_refl _) _).setCell (Nat.le_refl _) _
def SqA (g h:Nat) (i:Nat):Option Addr:=if i=0 then some ⟨g,0,none⟩ else some ⟨h,0,none⟩
def SqC (c d:Nat) (i:Nat):Nat:=if i=0 then c else d
theorem new_cell (w:World) (a:Addr) (u:Value) (cs:Array Value) (t j:Nat):((w.setCell a u).alloc (.cells cs t)).cell? ⟨w.heap.size,j,none⟩=cs[j]?:=by
 have h:=heap_alloc_new (w.setCell a u) (.cells cs t)
 have e:(w.setCell a u).heap.size=w.heap.size:=by simp [World.setCell]
 rw [e] at h
 exact Lib.cell_of_heap h j
theorem new_mem {w:World} {a:Addr} {u:Value} {o:Obj} {g n:Nat} (h:MemB w g n) (hne:g≠a.block):MemB ((w.setCell a u).alloc o) g n:=by
 have e:(w.setCell a u).heap.size=w.heap.size:=by simp [World.setCell]
 refine h.same ?_
 rw [Below.heap_alloc _ _ _ (by rw [e];exact h.lt),Below.heap_setCell _ _ _ _ hne]
set_option maxHeartbeats 4000000 in
theorem square_any (n:Nat) (w:World) (hn:n≤12):Calls Tryz.prog 13 #[.int .i64 n] w fun e w'=>(∃ A0 A C,e=.returned (.agg #[.slice A0 2 2])∧DimsV w' A0 2 2 (squareD n) A C)∧Below w.heap.size w w':=by
 have h1:=flat_any ⟨#[120]⟩ n (ownOut w none 0 0 24) hn
 have HB0:Hid (Below w.heap.size w (ownOut w none 0 0 24)):=ownOut_below ..
 go_enter Tryz.func13,Tryz.ntmps13
 go_wp2_with fail
 refine h1.mono ?_
 rintro e w1 ⟨⟨g1,k1,rfl,hc1,hg1,hM1⟩,hb1⟩
 have hB1:=onB HB0.out hb1
 have hz1:w.heap.size<w1.heap.size:=by have:=hb1.size;rw [ownOut_size] at this;omega
 have c1:w1.cell? ⟨w.heap.size,0,none⟩=some (.slice none 0 0):=(hb1.cell (p:=⟨w.heap.size,0,none⟩) (by show w.heap.size<_;rw [ownOut_size];omega)).trans (ownOut_at ..)
 have f1:w1.frozen? ⟨w.heap.size,0,none⟩=false:=(hb1.frozen (p:=⟨w.heap.size,0,none⟩) (by show w.heap.size<_;rw [ownOut_size];omega)).trans (by unfold ownOut;exact World.frozen?_alloc_at _ _ _ _ rfl)
 have h2:=flat_any ⟨#[121]⟩ n w1 hn
 clear h1 hb1
 go_wp2_with fail
 refine h2.mono ?_
 rintro e w2 ⟨⟨g2,k2,rfl,hc2,hg2,hM2⟩,hb2⟩
 have hB2:=onB hB1 hb2
 have hz2:w.heap.size<w2.heap.size:=Nat.lt_of_lt_of_le hz1 hb2.size
 have c2:=(hb2.cell (p:=⟨w.heap.size,0,none⟩) hz1).trans c1
 have f2:=(hb2.frozen (p:=⟨w.heap.size,0,none⟩) hz1).trans f1
 have HM1:Hid (MemB w2 g1 (n+1)):=hM1.later hb2
 have HM2:Hid (MemB w2 g2 (n+1)):=hM2
 have HB2:Hid (Below w.heap.size w w2):=hB2
 clear c1 f1 h2 hM1 hM2 hb2 hB1 hB2
 go_wp2_with fail
 rw [ownOut_size] at hg1
 have hq:∀ v o,((w2.setCell ⟨w.heap.size,0,none⟩ v).alloc o).cell? ⟨w.heap.size,0,none⟩=some v:=fun v o=>by
  rw [World.cell?_alloc_lt _ _ ⟨w.heap.size,0,none⟩ (by show w.heap.size<_;simp [World.setCell];exact hz2),World.cell?_setCell_same _ _ _ c2]
 refine bodyPost_ret (v:=.agg #[.slice (some ⟨w2.heap.size,0,none⟩) 2 2]) (by simp [results,Tryz.results13,go_sem,hq]) rfl ⟨⟨some ⟨w2.heap.size,0,none⟩,SqA g1 g2,SqC k1 k2,rfl,Nat.le_refl _,Or.inr ⟨_,_,rfl,by simp [World.setCell],fun i hi=>?_⟩⟩,?_⟩
 ·match i,hi with
  | 0,_=>exact ⟨new_cell _ _ _ _ _ 0,new_cell _ _ _ _ _ 1,new_cell _ _ _ _ _ 2,hc1,Or.inr ⟨g1,0,rfl,(new_mem HM1.out (by show g1≠w.heap.size;omega)).2⟩⟩
  | 1,_=>exact ⟨new_cell _ _ _ _ _ 3,new_cell _ _ _ _ _ 4,new_cell _ _ _ _ _ 5,hc2,Or.inr ⟨g2,0,rfl,(new_mem HM2.out (by show g2≠w.heap.size;omega)).2⟩⟩
 ·exact (HB2.out.setCell (Nat.le_refl _) _).alloc (by simp [World.setCell];omega) _
theorem sq_place {n X:Nat} (h:X<(n+1)*(n+1)):placeL (squareD n) 2 X=[((X / (n+1):Nat):Int),((X % (n+1):Nat):Int)]:=by
 have h1:X / (n+1)<n+1:=Nat.div_lt_of_lt_mul h
 show [((X / (n+1) % (n+1):Nat):Int),((X % (n+1):Nat):Int)]=_
 rw [Nat.mod_eq_of_lt h1]
theorem sq_by:∀ n:Fin 10,∀ a b:Fin 10,1≤n.val→a.val≤n.val→b.val≤n.val→byTo (squareD n.val) [(a.val:Int),(b.val:Int)] 2=if a.val=0 then 0 else if b.val=0 then 1 else -1:=by decide +kernel
theorem sq_mnd0:∀ n:Fin 10,∀ i:Fin 2,mNd (squareD n.val i.val) 0=(List.range n.val).map (fun x:Nat=>(x:Int)+1):=by decide +kernel
theorem sq_mnd {n i:Nat} (hn:n≤9) (hi:i<2):mNd (squareD n i) 0=(List.range n).map (fun x:Nat=>(x:Int)+1):=sq_mnd0 ⟨n,by omega⟩ ⟨i,hi⟩
theorem sq_lfv:∀ n:Fin 10,∀ a b:Fin 10,1≤n.val→a.val≤n.val→b.val≤n.val→leafV (squareD n.val) 2 [(a.val:Int),(b.val:Int)]=(decide (1≤a.val) && decide (1≤b.val)):=by decide +kernel
theorem sq_num (n a b:Nat):numI (squareD n) [(a:Int),(b:Int)] 2=((a*(n+1)+b:Nat):Int):=by
 show ((0*((n+1:Nat):Int)+(a:Int))*((n+1:Nat):Int)+(b:Int))=_
 simp
theorem sq_at {n a b:Nat} (ha:a≤n) (hb:b≤n):a*(n+1)+b<(n+1)*(n+1)∧placeL (squareD n) 2 (a*(n+1)+b)=[(a:Int),(b:Int)]:=by
 have h1:a*(n+1)+b<(n+1)*(n+1):=by
  have:a*(n+1)≤n*(n+1):=Nat.mul_le_mul_right _ ha
  rw [Nat.add_mul n 1 (n+1)]
  omega
 refine ⟨h1,?_⟩
 rw [sq_place h1]
 have e1:(a*(n+1)+b) / (n+1)=a:=by rw [Nat.mul_comm,Nat.mul_add_div (by omega),Nat.div_eq_of_lt (by omega)];omega
 have e2:(a*(n+1)+b) % (n+1)=b:=by rw [Nat.mul_comm,Nat.mul_add_mod,Nat.mod_eq_of_lt (by omega)]
 rw [e1,e2]
theorem sq_stp {n a b:Nat} (hn1:1≤n) (hn9:n≤9) (ha:a≤n) (hb:b≤n) (j:Nat):StpN (squareD n) 2 (a*(n+1)+b) j↔(a=0∧∃ x,1≤x∧x≤n∧j=x*(n+1)+b)∨(1≤a∧b=0∧∃ y,1≤y∧y≤n∧j=a*(n+1)+y):=by
 unfold StpN
 rw [(sq_at ha hb).2]
 have hby:=sq_by ⟨n,by omega⟩ ⟨a,by omega⟩ ⟨b,by omega⟩ hn1 ha hb
 have hby':byTo (squareD n) [(a:Int),(b:Int)] 2=if a=0 then 0 else if b=0 then 1 else -1:=hby
 rw [hby']
 by_cases h0:a=0
 ·subst h0
  rw [if_pos rfl]
  constructor
  ·rintro ⟨c,hc,x,hx,hj⟩
   have hc0:c=0:=by omega
   subst hc0
   have hx':x∈mNd (squareD n 0) 0:=hx
   rw [sq_mnd hn9 (show 0<2 by omega)] at hx'
   obtain ⟨y,hy,rfl⟩:=List.mem_map.1 hx'
   have hyn:=List.mem_range.1 hy
   have hj':(j:Int)=numI (squareD n) [((y+1:Nat):Int),(b:Int)] 2:=hj
   rw [sq_num] at hj'
   exact Or.inl ⟨rfl,y+1,by omega,by have:y<n:=hyn;omega,by omega⟩
  ·rintro (⟨-,x,h1,h2,rfl⟩ | ⟨h,-⟩)
   ·refine ⟨0,rfl,(x:Int),?_,?_⟩
    ·show (x:Int)∈mNd (squareD n 0) 0
     rw [sq_mnd hn9 (show 0<2 by omega)]
     exact List.mem_map.2 ⟨x-1,List.mem_range.2 (by show x-1<n;omega),by omega⟩
    ·show _=numI (squareD n) [(x:Int),(b:Int)] 2
     rw [sq_num]
   ·omega
 ·rw [if_neg h0]
  by_cases h1:b=0
  ·subst h1
   rw [if_pos rfl]
   constructor
   ·rintro ⟨c,hc,x,hx,hj⟩
    have hc0:c=1:=by omega
    subst hc0
    have hx':x∈mNd (squareD n 1) 0:=hx
    rw [sq_mnd hn9 (show 1<2 by omega)] at hx'
    obtain ⟨y,hy,rfl⟩:=List.mem_map.1 hx'
    have hyn:=List.mem_range.1 hy
    have hj':(j:Int)=numI (squareD n) [(a:Int),((y+1:Nat):Int)] 2:=hj
    rw [sq_num] at hj'
    exact Or.inr ⟨by omega,rfl,y+1,by omega,by have:y<n:=hyn;omega,by omega⟩
   ·rintro (⟨h,-⟩ | ⟨-,-,y,h2,h3,rfl⟩)
    ·exact absurd h h0
    ·refine ⟨1,rfl,(y:Int),?_,?_⟩
     ·show (y:Int)∈mNd (squareD n 1) 0
      rw [sq_mnd hn9 (show 1<2 by omega)]
      exact List.mem_map.2 ⟨y-1,List.mem_range.2 (by show y-1<n;omega),by omega⟩
     ·show _=numI (squareD n) [(a:Int),(y:Int)] 2
      rw [sq_num]
  ·rw [if_neg h1]
   constructor
   ·rintro ⟨c,hc,-⟩
    omega
   ·rintro (⟨h,-⟩ | ⟨-,h,-⟩)
    ·exact absurd h h0
    ·exact absurd h h1
theorem sq_ndd {n i k:Nat} (hn1:1≤n) (hn9:n≤9) (hi1:1≤i) (hi:i≤n) (hk1:1≤k) (hk:k≤n) {a b:Nat} (ha:a≤n) (hb:b≤n):Ndd (squareD n) 2 (a*(n+1)+b) (i*(n+1)+k)↔(a=0∨a=i)∧(b=0∨b=k):=by
 have inj:∀ {a b c d:Nat},b≤n→d≤n→a*(n+1)+b=c*(n+1)+d→a=c∧b=d:=by
  intro a b c d hb hd h
  have e1:(a*(n+1)+b) / (n+1)=a:=by rw [Nat.mul_comm,Nat.mul_add_div (by omega),Nat.div_eq_of_lt (by omega)];omega
  have e2:(c*(n+1)+d) / (n+1)=c:=by rw [Nat.mul_comm,Nat.mul_add_div (by omega),Nat.div_eq_of_lt (by omega)];omega
  have e:a=c:=by rw [←e1,h,e2]
  subst e
  exact ⟨rfl,by omega⟩
 constructor
 ·intro h
  have key:∀ {x y:Nat},Ndd (squareD n) 2 x y→y=i*(n+1)+k→∀ a b,a≤n→b≤n→x=a*(n+1)+b→(a=0∨a=i)∧(b=0∨b=k):=by
   intro x y hxy
   induction hxy with
   | refl z =>
    intro hy a b _ hb hx
    obtain ⟨h1,h2⟩:=inj hb hk (hx.symm.trans hy)
    exact ⟨Or.inr h1,Or.inr h2⟩
   | @step x z y hs _ ih =>
    intro hy a b ha hb hx
    subst hx
    rcases (sq_stp hn1 hn9 ha hb z).1 hs with ⟨h0,c,hc1,hc2,rfl⟩ | ⟨h1,h0,c,hc1,hc2,rfl⟩
    ·obtain ⟨g1,g2⟩:=ih hy c b hc2 hb rfl
     exact ⟨Or.inl h0,g2⟩
    ·obtain ⟨g1,g2⟩:=ih hy a c ha hc2 rfl
     exact ⟨g1,Or.inl h0⟩
  exact key h rfl a b ha hb rfl
 ·rintro ⟨h1,h2⟩
  have col:∀ a,1≤a→a=i→Ndd (squareD n) 2 (a*(n+1)+b) (i*(n+1)+k):=by
   intro a h3 h4
   subst h4
   rcases h2 with h2 | h2
   ·subst h2
    exact .step ((sq_stp hn1 hn9 hi (Nat.zero_le _) _).2 (Or.inr ⟨h3,rfl,k,hk1,hk,rfl⟩)) (.refl _)
   ·subst h2
    exact .refl _
  rcases h1 with h1 | h1
  ·subst h1
   exact .step ((sq_stp hn1 hn9 (Nat.zero_le _) hb _).2 (Or.inl ⟨rfl,i,hi1,hi,rfl⟩)) (col i hi1 rfl)
  ·exact col a (by omega) h1
def drC (n i k Y:Nat):Bool:=(decide (Y / (n+1)=0) || decide (Y / (n+1)=i)) && (decide (Y % (n+1)=0) || decide (Y % (n+1)=k))
theorem drC_is:∀ n i k:Fin 10,1≤i.val→i.val≤n.val→1≤k.val→k.val≤n.val→selTo (drC n.val i.val k.val) ((n.val+1)*(n.val+1))=[0,(k.val:Int),((i.val*(n.val+1):Nat):Int),((i.val*(n.val+1)+k.val:Nat):Int)]:=by decide +kernel
theorem sq_split {n Y:Nat} (hY:Y<(n+1)*(n+1)):Y / (n+1)≤n∧Y % (n+1)≤n∧Y=Y / (n+1)*(n+1)+Y % (n+1):=by
 refine ⟨?_,?_,?_⟩
 ·have:=Nat.div_lt_of_lt_mul hY
  omega
 ·have:=Nat.mod_lt Y (show 0<n+1 by omega)
  omega
 ·rw [Nat.mul_comm]
  exact (Nat.div_add_mod Y (n+1)).symm
theorem sq_prod {n:Nat} (hn9:n≤9):prodN (squareD n) 2=(n+1)*(n+1):=(square_all ⟨n,by omega⟩).2
theorem sq_dirty {n i k:Nat} (hn1:1≤n) (hn9:n≤9) (hi1:1≤i) (hi:i≤n) (hk1:1≤k) (hk:k≤n):drtL (squareD n) 2 [((i*(n+1)+k:Nat):Int)]=[0,(k:Int),((i*(n+1):Nat):Int),((i*(n+1)+k:Nat):Int)]:=by
 unfold drtL
 rw [sq_prod hn9,selTo_congr (q:=drC n i k) fun Y hY=>?_]
 ·exact drC_is ⟨n,by omega⟩ ⟨i,by omega⟩ ⟨k,by omega⟩ hi1 hi hk1 hk
 ·obtain ⟨h1,h2,h3⟩:=sq_split hY
  have h4:=sq_ndd hn1 hn9 hi1 hi hk1 hk h1 h2
  rw [←h3] at h4
  rw [Bool.eq_iff_iff,dirB_iff]
  unfold drC
  rw [Bool.and_eq_true,Bool.or_eq_true,Bool.or_eq_true,decide_eq_true_iff,decide_eq_true_iff,decide_eq_true_iff,decide_eq_true_iff,←h4]
  constructor
  ·rintro ⟨a,ha,h5⟩
   rw [List.mem_singleton] at ha
   have:a=i*(n+1)+k:=by omega
   subst this
   exact h5
  ·intro h5
   exact ⟨_,List.mem_singleton.2 rfl,h5⟩
theorem sq_shape:∀ n a b:Fin 10,1≤n.val→a.val≤n.val→b.val≤n.val→shapeErr (squareD n.val) 2 [(a.val:Int),(b.val:Int)]=0:=by decide +kernel
end Go.Proofs.YtfgegmpoejilnaaGreatDoor
namespace Go.Proofs.YtfgegmpoejilnaaGreatDoor
theorem corn_row {n k:Nat} (hn:1≤n) (hk:k<n*n):1≤1+k / n∧1+k / n≤n∧1≤1+k % n∧1+k % n≤n:=by
 have h1:k / n<n:=Nat.div_lt_of_lt_mul hk
 have h2:k % n<n:=Nat.mod_lt _ hn
 exact ⟨Nat.le_add_right _ _,by omega,Nat.le_add_right _ _,by omega⟩
theorem corn_less {n j k:Nat} (hjk:j<k):lessL (cornP n j) (cornP n k)=true:=by
 unfold cornP
 simp only [lessL]
 have h1:j / n≤k / n:=Nat.div_le_div_right (by omega)
 by_cases h:j / n=k / n
 ·rw [if_pos (by rw [h])]
  have e1:=Nat.div_add_mod j n
  have e2:=Nat.div_add_mod k n
  rw [h] at e1
  have h2:j % n<k % n:=by omega
  rw [if_neg (by omega)]
  exact decide_eq_true (by omega)
 ·rw [if_neg (by omega)]
  exact decide_eq_true (by omega)
end Go.Proofs.YtfgegmpoejilnaaGreatDoor
namespace Go.Proofs.YtfgegmpoejilnaaGreatDoor
open Go.ChangeShapes Go.WideShapes Go.ChangeAt Go.RowKit
set_option maxRecDepth 20000
theorem roll_set {D:Nat→Dm} {n:Nat} {l:List En} {q:List Int} (p:List Int) (x:Int) (hc:∀ y,cntR D n p ⟨q,y⟩=true):rollN D n p (setL l q x)=rollN D n p l-pwTo D p q n*(getE l q).2+pwTo D p q n*x∧(setL l q x).any (cntR D n p)=true:=by
 have hany:(setL l q x).any (cntR D n p)=true:=by
  unfold setL
  rw [List.any_append,List.any_cons,hc x]
  simp
 refine ⟨?_,hany⟩
 cases hh:hasE l q with
 | false =>
  have h1:=(roll_more hh p x).1 (hc x)
  have h2:rollN D n p (setL l q x)=(rollV D n l p).2+pwTo D p q n*x:=congrArg Prod.snd h1
  have h3:(getE l q).2=0:=by
   unfold getE
   unfold hasE at hh
   cases hd:l.drop (cntE l q) with
   | nil=>rfl
   | cons e r =>
    rw [hd] at hh
    simp only [Bool.not_eq_false'] at hh
    simp only [hh,if_true]
  rw [h2,h3]
  show rollN D n p l+_=_
  omega
 | true =>
  cases hd:l.drop (cntE l q) with
  | nil=>unfold hasE at hh;rw [hd] at hh;cases hh
  | cons e r =>
   have hle:lessL q e.pl=false:=by unfold hasE at hh;rw [hd] at hh;simpa using hh
   have hg:getE l q=(1,e.n):=by unfold getE;rw [hd];simp only [hle];rfl
   have hep:e.pl=q:=by
    have h5:(l.dropWhile fun e=>lessL e.pl q)=e :: r:=by rw [←drop_while];exact hd
    have h6:=List.head?_dropWhile_not (fun e:En=>lessL e.pl q) l
    rw [h5] at h6
    exact lessL_eq (by simpa using h6) hle
   have e1:setL l q x=l.take (cntE l q) ++ ⟨q,x⟩ :: r:=by
    unfold setL
    rw [hh,if_pos rfl,←List.drop_drop,hd]
    rfl
   have e2:l=l.take (cntE l q) ++ e :: r:=by rw [←hd];exact (List.take_append_drop _ _).symm
   have hee:e=⟨q,e.n⟩:=by rw [←hep]
   have hv:∀ y,rollN D n p (⟨q,y⟩ :: r)=rollN D n p r+pwTo D p q n*y:=fun y=>by
    rw [rollN,if_pos (hc y)]
    unfold valR
    exact Int.add_comm _ _
   rw [e1,rollN_append,hv,hg]
   conv=>rhs;rw [e2,rollN_append,hee,hv]
   show rollN D n p (l.take (cntE l q))+(rollN D n p r+pwTo D p q n*x)=rollN D n p (l.take (cntE l q))+(rollN D n p r+pwTo D p q n*e.n)-pwTo D p q n*e.n+pwTo D p q n*x
   generalize pwTo D p q n*x=u
   generalize pwTo D p q n*e.n=v
   omega
theorem sq_pw:∀ n:Fin 10,∀ a b:Fin 10,1≤n.val→1≤a.val→a.val≤n.val→1≤b.val→b.val≤n.val→inTo (squareD n.val) [0,0] [(a.val:Int),(b.val:Int)] 2=true∧pwTo (squareD n.val) [0,0] [(a.val:Int),(b.val:Int)] 2=1:=by decide +kernel
theorem sq_form:∀ n:Fin 10,∀ i:Fin 2,∀ k:Fin 10,k.val<(squareD n.val i.val).n→((squareD n.val i.val).mem k.val).formula.size=0:=by decide +kernel
theorem sq_size:∀ n:Fin 10,∀ i:Fin 2,(squareD n.val i.val).n=n.val+1:=by decide +kernel
theorem corn_in {n k:Nat} (hn1:1≤n) (hn9:n≤9) (hk:k<n*n):∃ a b:Nat,cornP n k=[(a:Int),(b:Int)]∧1≤a∧a≤n∧1≤b∧b≤n∧shapeErr (squareD n) 2 (cornP n k)=0∧leafV (squareD n) 2 (cornP n k)=true:=by
 obtain ⟨h1,h2,h3,h4⟩:=corn_row hn1 hk
 refine ⟨1+k / n,1+k % n,rfl,h1,h2,h3,h4,sq_shape ⟨n,by omega⟩ ⟨1+k / n,by omega⟩ ⟨1+k % n,by omega⟩ hn1 h2 h4,?_⟩
 have h:=sq_lfv ⟨n,by omega⟩ ⟨1+k / n,by omega⟩ ⟨1+k % n,by omega⟩ hn1 h2 h4
 show leafV (squareD n) 2 [((1+k / n:Nat):Int),((1+k % n:Nat):Int)]=true
 have h':leafV (squareD n) 2 [((1+k / n:Nat):Int),((1+k % n:Nat):Int)]=(decide (1≤1+k / n) && decide (1≤1+k % n)):=h
 rw [h']
 simp [h1,h3]
theorem corn_do {n k:Nat} (hn1:1≤n) (hn9:n≤9) (hk:k<n*n) {x:Int} (hx:0≤x∧x≤1000000) {l:List En} (hl:Ens (squareD n) 2 l):doE (squareD n) 2 l [⟨cornP n k,x,false⟩]=0∧doL (squareD n) 2 l [⟨cornP n k,x,false⟩]=setL l (cornP n k) x∧doN (squareD n) 2 l [⟨cornP n k,x,false⟩]=4:=by
 obtain ⟨a,b,hab,ha1,ha,hb1,hb,hs,hlf⟩:=corn_in hn1 hn9 hk
 have he:editErr (squareD n) 2 l ⟨cornP n k,x,false⟩=0:=by
  unfold editErr
  rw [if_neg (by simpa using hs),if_neg (by simp),if_neg (by simp [hlf]),if_neg (by unfold numOk;simp;omega)]
 obtain ⟨h1,h2⟩:=do_one hl he
 refine ⟨h1,by rw [h2];rfl,?_⟩
 unfold doN
 rw [if_pos h1]
 have e:([⟨cornP n k,x,false⟩]:List Ed).map (fun x=>numI (squareD n) x.pl 2)=[((a*(n+1)+b:Nat):Int)]:=by
  rw [List.map_cons,List.map_nil,hab,sq_num]
 rw [e,sq_dirty hn1 hn9 ha1 ha hb1 hb]
 rfl
theorem corn_whole {n:Nat} (hn1:1≤n) (hn9:n≤9) {l:List En} (hl:Ens (squareD n) 2 l):hcV (squareD n) 2 l [0,0]=rollV (squareD n) 2 l [0,0]∧-3000000000≤rollN (squareD n) 2 [0,0] l∧rollN (squareD n) 2 [0,0] l≤3000000000:=by
 have hru:=(sq_cube hn9).1
 obtain ⟨hE,hR⟩:=ru_right hru
 have h0:shapeErr (squareD n) 2 [0,0]=0:=sq_shape ⟨n,by omega⟩ ⟨0,by omega⟩ ⟨0,by omega⟩ hn1 (Nat.zero_le _) (Nat.zero_le _)
 have hp:placeErr (squareD n) 2 [0,0]=0:=by rw [place_shapeN hE];exact h0
 obtain ⟨y,h1,h2,h3⟩:=num_lt (inO_of hp)
 constructor
 ·unfold hcV
  rw [if_pos hp,h1,Int.toNat_natCast,caL_at (cu_right hru hl) h2,h3]
  refine sol_roll hl hR (fun i hi k hk=>?_) _ _ (inO_of hp) (Nat.lt_succ_self _)
  have hs:=sq_size ⟨n,by omega⟩ ⟨i,hi⟩
  have hk':k<n+1:=by have:=hk;rw [show (squareD n i).n=n+1 from hs] at this;exact this
  exact sq_form ⟨n,by omega⟩ ⟨i,hi⟩ ⟨k,by omega⟩ hk
 ·have hb:=roll_bound (D:=squareD n) (n:=2) [0,0] l hl.each
  have hf:=hl.few
  omega
theorem CorS.first {n:Nat} (hn9:n≤9):CorS n [] (fun _=>0) 0:=by
 obtain ⟨hE,-⟩:=ru_right (sq_cube hn9).1
 exact ⟨⟨hE,fun e h=>(by cases h),List.Pairwise.nil⟩,fun k _=>rfl,rfl⟩
theorem CorS.next {n k:Nat} {l:List En} {f:Nat→Int} {s x:Int} (h:CorS n l f s) (hn1:1≤n) (hn9:n≤9) (hk:k<n*n) (hx:0≤x∧x≤1000000):CorS n (setL l (cornP n k) x) (fun j=>if j=k then x else f j) (s-f k+x)∧hcV (squareD n) 2 (setL l (cornP n k) x) [0,0]=(1,s-f k+x)∧-3000000000≤s-f k+x∧s-f k+x≤3000000000:=by
 obtain ⟨a,b,hab,ha1,ha,hb1,hb,hs,hlf⟩:=corn_in hn1 hn9 hk
 obtain ⟨hE,-⟩:=ru_right (sq_cube hn9).1
 have hin:InO (squareD n) 2 (cornP n k):=inO_of (by rw [place_shapeN hE];exact hs)
 have hens:=h.ens.set hin hlf (x:=x) (by unfold numOk;simp;omega)
 obtain ⟨p1,p2⟩:=sq_pw ⟨n,by omega⟩ ⟨a,by omega⟩ ⟨b,by omega⟩ hn1 ha1 ha hb1 hb
 have hc:∀ y,cntR (squareD n) 2 [0,0] ⟨cornP n k,y⟩=true:=fun y=>by
  unfold cntR
  show (inTo (squareD n) [0,0] (cornP n k) 2 && !(pwTo (squareD n) [0,0] (cornP n k) 2 == 0))=true
  rw [hab]
  have p1':inTo (squareD n) [0,0] [(a:Int),(b:Int)] 2=true:=p1
  have p2':pwTo (squareD n) [0,0] [(a:Int),(b:Int)] 2=1:=p2
  rw [p1',p2']
  rfl
 obtain ⟨r1,r2⟩:=roll_set (l:=l) [0,0] x hc
 have hpw:pwTo (squareD n) [0,0] (cornP n k) 2=1:=by rw [hab];exact p2
 rw [hpw,h.at' k hk,h.sum] at r1
 have hsum:rollN (squareD n) 2 [0,0] (setL l (cornP n k) x)=s-f k+x:=by omega
 obtain ⟨c1,c2,c3⟩:=corn_whole hn1 hn9 hens
 refine ⟨⟨hens,fun j hj=>?_,hsum⟩,?_,by omega,by omega⟩
 ·by_cases e:j=k
  ·rw [if_pos e,e,(h.ens.there (cornP n k) x).1]
  ·rw [if_neg e]
   have hne:cornP n j≠cornP n k:=fun e2=>by
    rcases Nat.lt_or_gt_of_ne e with h1 | h1
    ·have:=corn_less (n:=n) h1
     rw [e2,lessL_self] at this
     cases this
    ·have:=corn_less (n:=n) h1
     rw [e2,lessL_self] at this
     cases this
   rw [h.ens.else hne x]
   exact h.at' j hj
 ·rw [c1]
  unfold rollV rollK
  rw [if_pos r2,hsum]
theorem bkO {w:World} {o:Obj} {k:Nat} {x:Obj} (h:w.heap[k]?=some x):(w.alloc o).heap[k]?=some x:=by
 rw [heap_alloc_old _ _ (Array.getElem?_eq_some_iff.1 h).1]
 exact h
theorem bkN {w:World} {cs:Array Value} {t k:Nat} (h:w.heap.size=k):(w.alloc (.cells cs t)).heap[k]?=some (.cells cs t (0,0)):=by
 subst h
 exact heap_alloc_new ..
end Go.Proofs.YtfgegmpoejilnaaGreatDoor
