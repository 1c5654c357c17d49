/-
  Members and dims laid one by one in rows of a call's own: how an outline without its formulas lies in memory while it is built.
-/
import Derived.Test.YtaodedckffjpgafGreatDoorJXCC
namespace Go.Proofs.YtaodedckffjpgafGreatDoor
open Go.ChangeShapes Go.WideShapes Go.ChangeAt Go.RowKit
set_option maxRecDepth 20000
def MemT (w:World) (A:Option Addr) (c n:Nat) (M:Nat→Mem):Prop:=n≤c∧(n=0∨∃ b cs fr,A=some ⟨b,0,none⟩∧w.heap[b]?=some (.cells cs 26 fr)∧MemsAt w b 0 n M)
theorem MemT.toV {w:World} {A:Option Addr} {c n:Nat} {M:Nat→Mem} (h:MemT w A c n M):MemsV w A c n M:=by
 obtain ⟨h1,h2 | ⟨b,cs,fr,h2,-,h3⟩⟩:=h
 ·exact ⟨h1,Or.inl h2⟩
 ·exact ⟨h1,Or.inr ⟨b,0,h2,h3⟩⟩
theorem MemT.keep {w w':World} {A:Option Addr} {c n:Nat} {M:Nat→Mem} (h:MemT w A c n M) (hB:∀ (b:Nat) (cs:Array Value) (fr:Nat×Nat),w.heap[b]?=some (Obj.cells cs 26 fr)→w'.heap[b]?=w.heap[b]?):MemT w' A c n M:=by
 obtain ⟨h1,h2 | ⟨b,cs,fr,h2,h3,h4⟩⟩:=h
 ·exact ⟨h1,Or.inl h2⟩
 ·have he:=hB b cs fr h3
  refine ⟨h1,Or.inr ⟨b,cs,fr,h2,he.trans h3,(Array.getElem?_eq_some_iff.1 (he.trans h3)).1,fun i hi=>?_⟩⟩
  obtain ⟨x0,x1,x2,x3⟩:=h4.2 i hi
  exact ⟨(World.cell?_of_block (a:=⟨b,_,none⟩) he).trans x0,(World.cell?_of_block (a:=⟨b,_,none⟩) he).trans x1,(World.cell?_of_block (a:=⟨b,_,none⟩) he).trans x2,(World.cell?_of_block (a:=⟨b,_,none⟩) he).trans x3⟩
def cellsMb (M:Nat→Mem):Nat→List Value
 | 0=>[]
 | k+1=>cellsMb M k ++ [.string (M k).name,.int .i64 (M k).parent,.int .i64 (M k).sign,.string (M k).formula]
theorem cellsMb_len (M:Nat→Mem):∀ k,(cellsMb M k).length=k*4
 | 0=>rfl
 | k+1=>by rw [cellsMb,List.length_append,cellsMb_len M k];simp;omega
theorem cellsMb_at (M:Nat→Mem) (n:Nat):∀ k,k<n→(cellsMb M n)[k*4]?=some (.string (M k).name)∧(cellsMb M n)[k*4+1]?=some (.int .i64 (M k).parent)∧(cellsMb M n)[k*4+2]?=some (.int .i64 (M k).sign)∧(cellsMb M n)[k*4+3]?=some (.string (M k).formula):=by
 induction n with
 | zero=>intro k h;omega
 | succ n ih =>
  intro k hk
  rw [cellsMb]
  have hl:=cellsMb_len M n
  by_cases h:k=n
  ·subst h
   refine ⟨?_,?_,?_,?_⟩ <;> rw [List.getElem?_append_right (by omega),hl]
   ·rw [Nat.sub_self];rfl
   ·rw [show k*4+1-k*4=1 by omega];rfl
   ·rw [show k*4+2-k*4=2 by omega];rfl
   ·rw [show k*4+3-k*4=3 by omega];rfl
  ·have:=ih k (by omega)
   refine ⟨?_,?_,?_,?_⟩ <;> rw [List.getElem?_append_left (by omega)]
   ·exact this.1
   ·exact this.2.1
   ·exact this.2.2.1
   ·exact this.2.2.2
theorem memT_own {w:World} {base n:Nat} {v:Value} {M:Nat→Mem} (h:w.ownsRow base 26 4 v n (cellsMb M n)):∃ A c,v=.slice A n c∧MemT w A c n M:=by
 rcases h.2 with ⟨rfl,h0⟩ | ⟨g,cap,cur,rfl,hb,hg,h4,h5,h6,h7⟩
 ·subst h0
  exact ⟨none,0,rfl,Nat.le_refl _,Or.inl rfl⟩
 ·refine ⟨_,cap,rfl,h4,Or.inr ⟨g,cur,_,rfl,hg,(Array.getElem?_eq_some_iff.1 hg).1,fun k hk=>?_⟩⟩
  obtain ⟨x0,x1,x2,x3⟩:=cellsMb_at M n k hk
  rw [←h7,List.getElem?_take,if_pos (by omega),Array.getElem?_toList] at x0 x1 x2 x3
  rw [Nat.zero_add]
  exact ⟨by simp [World.cell?,hg,x0],by simp [World.cell?,hg,x1],by simp [World.cell?,hg,x2],by simp [World.cell?,hg,x3]⟩
def cellsDo (D:Nat→Dm) (A:Nat→Option Addr) (C:Nat→Nat):Nat→List Value
 | 0=>[]
 | k+1=>cellsDo D A C k ++ [.string (D k).name,.int .i64 (D k).solve,.slice (A k) (D k).n (C k)]
theorem cellsDo_len (D:Nat→Dm) (A:Nat→Option Addr) (C:Nat→Nat):∀ k,(cellsDo D A C k).length=k*3
 | 0=>rfl
 | k+1=>by rw [cellsDo,List.length_append,cellsDo_len D A C k];simp;omega
theorem cellsDo_same {D:Nat→Dm} {A A':Nat→Option Addr} {C C':Nat→Nat}:∀ k,(∀ i,i<k→A i=A' i∧C i=C' i)→cellsDo D A C k=cellsDo D A' C' k
 | 0,_=>rfl
 | k+1,h=>by rw [cellsDo,cellsDo,cellsDo_same k fun i hi=>h i (by omega),(h k (by omega)).1,(h k (by omega)).2]
theorem cellsDo_at (D:Nat→Dm) (A:Nat→Option Addr) (C:Nat→Nat) (n:Nat):∀ k,k<n→(cellsDo D A C n)[k*3]?=some (.string (D k).name)∧(cellsDo D A C n)[k*3+1]?=some (.int .i64 (D k).solve)∧(cellsDo D A C n)[k*3+2]?=some (.slice (A k) (D k).n (C k)):=by
 induction n with
 | zero=>intro k h;omega
 | succ n ih =>
  intro k hk
  rw [cellsDo]
  have hl:=cellsDo_len D A C n
  by_cases h:k=n
  ·subst h
   refine ⟨?_,?_,?_⟩ <;> rw [List.getElem?_append_right (by omega),hl]
   ·rw [Nat.sub_self];rfl
   ·rw [show k*3+1-k*3=1 by omega];rfl
   ·rw [show k*3+2-k*3=2 by omega];rfl
  ·have:=ih k (by omega)
   refine ⟨?_,?_,?_⟩ <;> rw [List.getElem?_append_left (by omega)]
   ·exact this.1
   ·exact this.2.1
   ·exact this.2.2
theorem dims_own {w:World} {base n:Nat} {v:Value} {D:Nat→Dm} {A:Nat→Option Addr} {C:Nat→Nat} (h:w.ownsRow base 24 3 v n (cellsDo D A C n)) (hM:∀ j,j<n→MemT w (A j) (C j) (D j).n (D j).mem):∃ A0 cap,v=.slice A0 n cap∧DimsV w A0 cap n D A C:=by
 rcases h.2 with ⟨rfl,h0⟩ | ⟨g,cap,cur,rfl,hb,hg,h4,h5,h6,h7⟩
 ·subst h0
  exact ⟨none,0,rfl,Nat.le_refl _,Or.inl rfl⟩
 ·refine ⟨_,cap,rfl,h4,Or.inr ⟨g,0,rfl,(Array.getElem?_eq_some_iff.1 hg).1,fun k hk=>?_⟩⟩
  obtain ⟨x0,x1,x2⟩:=cellsDo_at D A C n k hk
  rw [←h7,List.getElem?_take,if_pos (by omega),Array.getElem?_toList] at x0 x1 x2
  rw [Nat.zero_add]
  exact ⟨by simp [World.cell?,hg,x0],by simp [World.cell?,hg,x1],by simp [World.cell?,hg,x2],(hM k hk).toV⟩
theorem Tryz.infoDimX:(Tryz.prog.info? 24).map (fun i=>(i.zero,i.size,i.bytes))=some (some (.agg #[.string ⟨#[]⟩,.int .i64 0,.slice none 0 0]),3,48):=by kernel_rfl
theorem Tryz.infoMemX:(Tryz.prog.info? 26).map (fun i=>(i.zero,i.size,i.bytes))=some (some (.agg #[.string ⟨#[]⟩,.int .i64 0,.int .i64 0,.string ⟨#[]⟩]),4,48):=by kernel_rfl
def XAt (qx base:Nat) (D:Nat→Dm) (A:Nat→Option Addr) (C:Nat→Nat) (i:Nat) (w:World):Prop:=(∃ A0 c,w.heap[qx]?=some (.cells #[.slice A0 i c] 42 (0,0))∧w.ownsRow base 24 3 (.slice A0 i c) i (cellsDo D A C i))∧∀ j,j<i→MemT w (A j) (C j) (D j).n (D j).mem
def InAt (qd base:Nat) (nm:ByteArray) (s:Int) (M:Nat→Mem) (k:Nat) (v0 w:World):Prop:=(∃ A c,w.heap[qd]?=some (.cells #[.string nm,.int .i64 s,.slice A k c] 24 (0,0))∧w.ownsRow base 26 4 (.slice A k c) k (cellsMb M k))∧Kept v0.heap.size (fun b=>b=qd) v0 w
def rolW (w:World):World:=(((((w.alloc (.cells #[.string ⟨#[98]⟩,.int .i64 (-1),.int .i64 0,.string ⟨#[99,42,50]⟩,.string ⟨#[99]⟩,.int .i64 (-1),.int .i64 0,.string ⟨#[]⟩] 26)).alloc (.cells #[.string ⟨#[97]⟩,.int .i64 0,.slice (some ⟨w.heap.size,0,none⟩) 2 2] 24)).alloc (.cells #[.slice (some ⟨w.heap.size+1,0,none⟩) 1 1] 42)).alloc (.cells #[.int .i64 1] 3)).alloc (.cells #[.slice (some ⟨w.heap.size+3,0,none⟩) 1 1,.int .i64 7] 57)).alloc (.cells #[.int .i64 0] 3)
theorem rolW_below (w:World):Below w.heap.size w (rolW w):=by unfold rolW;go_grown
theorem rolW_size (w:World):(rolW w).heap.size=w.heap.size+6:=by unfold rolW;simp
theorem rolW_dims (w:World):DimsV (rolW w) (some ⟨w.heap.size+1,0,none⟩) 1 1 twoD (fun _=>some ⟨w.heap.size,0,none⟩) (fun _=>2):=by
 have hs:=rolW_size w
 have k0:(rolW w).heap[w.heap.size]?=some (.cells #[.string ⟨#[98]⟩,.int .i64 (-1),.int .i64 0,.string ⟨#[99,42,50]⟩,.string ⟨#[99]⟩,.int .i64 (-1),.int .i64 0,.string ⟨#[]⟩] 26 (0,0)):=by
  unfold rolW
  rw [heap_alloc_old _ _ (by simp;omega),heap_alloc_old _ _ (by simp;omega),heap_alloc_old _ _ (by simp;omega),heap_alloc_old _ _ (by simp;omega),heap_alloc_old _ _ (by simp)]
  exact heap_alloc_new ..
 have k1:(rolW w).heap[w.heap.size+1]?=some (.cells #[.string ⟨#[97]⟩,.int .i64 0,.slice (some ⟨w.heap.size,0,none⟩) 2 2] 24 (0,0)):=by
  unfold rolW
  rw [heap_alloc_old _ _ (by simp),heap_alloc_old _ _ (by simp),heap_alloc_old _ _ (by simp),heap_alloc_old _ _ (by simp)]
  exact topF1 ..
 refine ⟨Nat.le_refl _,Or.inr ⟨w.heap.size+1,0,rfl,by omega,fun i hi=>?_⟩⟩
 have hi0:i=0:=by omega
 subst hi0
 refine ⟨by simp [World.cell?,k1,twoD,twoDm],by simp [World.cell?,k1,twoD,twoDm],by simp [World.cell?,k1,twoD,twoDm],Nat.le_refl _,Or.inr ⟨w.heap.size,0,rfl,by omega,fun j hj=>?_⟩⟩
 have hj2:j<2:=hj
 rcases j with _ | _ | j
 ·exact ⟨by simp [World.cell?,k0] <;> rfl,by simp [World.cell?,k0] <;> rfl,by simp [World.cell?,k0] <;> rfl,by simp [World.cell?,k0] <;> rfl⟩
 ·exact ⟨by simp [World.cell?,k0] <;> rfl,by simp [World.cell?,k0] <;> rfl,by simp [World.cell?,k0] <;> rfl,by simp [World.cell?,k0] <;> rfl⟩
 ·omega
def rolX (w:World):List EnL:=[⟨⟨[1],7⟩,some ⟨w.heap.size+3,0,none⟩,1⟩]
theorem rolX_l (w:World):lE (rolX w)=twoE:=rfl
theorem rolW_ents (w:World):EnsV (rolW w) (some ⟨w.heap.size+4,0,none⟩) 1 (rolX w):=by
 have hs:=rolW_size w
 have k3:(rolW w).heap[w.heap.size+3]?=some (.cells #[.int .i64 1] 3 (0,0)):=by
  unfold rolW
  rw [heap_alloc_old _ _ (by simp),heap_alloc_old _ _ (by simp)]
  have h:=heap_alloc_new (((w.alloc (.cells #[.string ⟨#[98]⟩,.int .i64 (-1),.int .i64 0,.string ⟨#[99,42,50]⟩,.string ⟨#[99]⟩,.int .i64 (-1),.int .i64 0,.string ⟨#[]⟩] 26)).alloc (.cells #[.string ⟨#[97]⟩,.int .i64 0,.slice (some ⟨w.heap.size,0,none⟩) 2 2] 24)).alloc (.cells #[.slice (some ⟨w.heap.size+1,0,none⟩) 1 1] 42)) (.cells #[.int .i64 1] 3)
  simpa using h
 have k4:(rolW w).heap[w.heap.size+4]?=some (.cells #[.slice (some ⟨w.heap.size+3,0,none⟩) 1 1,.int .i64 7] 57 (0,0)):=by
  unfold rolW
  rw [heap_alloc_old _ _ (by simp)]
  have h:=heap_alloc_new ((((w.alloc (.cells #[.string ⟨#[98]⟩,.int .i64 (-1),.int .i64 0,.string ⟨#[99,42,50]⟩,.string ⟨#[99]⟩,.int .i64 (-1),.int .i64 0,.string ⟨#[]⟩] 26)).alloc (.cells #[.string ⟨#[97]⟩,.int .i64 0,.slice (some ⟨w.heap.size,0,none⟩) 2 2] 24)).alloc (.cells #[.slice (some ⟨w.heap.size+1,0,none⟩) 1 1] 42)).alloc (.cells #[.int .i64 1] 3)) (.cells #[.slice (some ⟨w.heap.size+3,0,none⟩) 1 1,.int .i64 7] 57)
  simpa using h
 refine ⟨Nat.le_refl _,by omega,Or.inr ⟨w.heap.size+4,0,rfl,by omega,fun j u hj=>?_,fun x hx=>?_⟩⟩
 ·have hj':(#[Value.slice (some ⟨w.heap.size+3,0,none⟩) 1 1,.int .i64 7]:Array Value)[j]?=some u:=by
   have:cellsE (rolX w)=[.slice (some ⟨w.heap.size+3,0,none⟩) 1 1,.int .i64 7]:=rfl
   rw [this] at hj
   simpa using hj
  rw [Nat.zero_add,Lib.cell_of_heap k4]
  exact hj'
 ·rw [List.mem_singleton.1 hx]
  refine ⟨Nat.le_refl _,Or.inr ⟨w.heap.size+3,0,rfl,by omega,fun j hj=>?_⟩⟩
  have hj0:j=0:=by have:j<1:=hj;omega
  subst hj0
  simp [World.cell?,k3]
theorem rolW_place (w:World):PlAt (rolW w) (some ⟨w.heap.size+5,0,none⟩) 1 [0]:=by
 have hs:=rolW_size w
 have k5:(rolW w).heap[w.heap.size+5]?=some (.cells #[.int .i64 0] 3 (0,0)):=by
  unfold rolW
  have h:=heap_alloc_new (((((w.alloc (.cells #[.string ⟨#[98]⟩,.int .i64 (-1),.int .i64 0,.string ⟨#[99,42,50]⟩,.string ⟨#[99]⟩,.int .i64 (-1),.int .i64 0,.string ⟨#[]⟩] 26)).alloc (.cells #[.string ⟨#[97]⟩,.int .i64 0,.slice (some ⟨w.heap.size,0,none⟩) 2 2] 24)).alloc (.cells #[.slice (some ⟨w.heap.size+1,0,none⟩) 1 1] 42)).alloc (.cells #[.int .i64 1] 3)).alloc (.cells #[.slice (some ⟨w.heap.size+3,0,none⟩) 1 1,.int .i64 7] 57)) (.cells #[.int .i64 0] 3)
  simpa using h
 refine ⟨Nat.le_refl _,Or.inr ⟨w.heap.size+5,0,rfl,by omega,fun j hj=>?_⟩⟩
 have hj0:j=0:=by have:j<1:=hj;omega
 subst hj0
 simp [World.cell?,k5]
theorem rolW_out (w:World):(rolW w).cell? ⟨w.heap.size+2,0,none⟩=some (.slice (some ⟨w.heap.size+1,0,none⟩) 1 1):=by
 have k2:(rolW w).heap[w.heap.size+2]?=some (.cells #[.slice (some ⟨w.heap.size+1,0,none⟩) 1 1] 42 (0,0)):=by
  unfold rolW
  rw [heap_alloc_old _ _ (by simp),heap_alloc_old _ _ (by simp),heap_alloc_old _ _ (by simp)]
  have h:=heap_alloc_new ((w.alloc (.cells #[.string ⟨#[98]⟩,.int .i64 (-1),.int .i64 0,.string ⟨#[99,42,50]⟩,.string ⟨#[99]⟩,.int .i64 (-1),.int .i64 0,.string ⟨#[]⟩] 26)).alloc (.cells #[.string ⟨#[97]⟩,.int .i64 0,.slice (some ⟨w.heap.size,0,none⟩) 2 2] 24)) (.cells #[.slice (some ⟨w.heap.size+1,0,none⟩) 1 1] 42)
  simpa using h
 simp [World.cell?,k2]
theorem memX_ne_dim:(26:Nat)≠24:=by decide
theorem memX_ne_out:(26:Nat)≠42:=by decide
theorem kept_low {N qd:Nat} {w v0 wi:World} (h:Below N w v0) (k:Kept v0.heap.size (fun b=>b=qd) v0 wi) (h1:N≤qd) (h2:N≤v0.heap.size):Below N w wi:=⟨k.os.trans h.os,k.tape.trans h.tape,k.output.trans h.output,Nat.le_trans h.size k.size,fun i hi=>(k.block i (by omega) (by omega)).trans (h.block i hi)⟩
theorem XAt.same {qx base i:Nat} {D:Nat→Dm} {A:Nat→Option Addr} {C:Nat→Nat} {w w':World} (h:XAt qx base D A C i w) (hs:∀ b,b<w.heap.size→w'.heap[b]?=w.heap[b]?):XAt qx base D A C i w':=by
 obtain ⟨⟨A0,c,h1,h2⟩,h3⟩:=h
 refine ⟨⟨A0,c,(hs qx (Array.getElem?_eq_some_iff.1 h1).1).trans h1,?_⟩,fun j hj=>(h3 j hj).keep fun b _ _ hb=>hs b (Array.getElem?_eq_some_iff.1 hb).1⟩
 refine ⟨h2.1,?_⟩
 rcases h2.2 with h4 | ⟨g,cap,cur,h4,hb,hg,h5⟩
 ·exact Or.inl h4
 ·exact Or.inr ⟨g,cap,cur,h4,hb,(hs g (Array.getElem?_eq_some_iff.1 hg).1).trans hg,h5⟩
theorem x_push {qx base i:Nat} {D:Nat→Dm} {A:Nat→Option Addr} {C:Nat→Nat} {wi w1:World} {A0 Am A1:Option Addr} {c cm c1:Nat} {o:Obj} (hq:qx<base) (hX:wi.heap[qx]?=some (.cells #[.slice A0 i c] 42 (0,0))∧wi.ownsRow base 24 3 (.slice A0 i c) i (cellsDo D A C i)) (hM:∀ j,j<i→MemT wi (A j) (C j) (D j).n (D j).mem) (hMi:MemT wi Am cm (D i).n (D i).mem)
  (hown:w1.ownsRow base 24 3 (.slice A1 (i+1) c1) (i+1) (cellsDo D A C i ++ [.string (D i).name,.int .i64 (D i).solve,.slice Am (D i).n cm])) (hgrow:(wi.alloc o).grownBy w1 (Value.slice A0 i c).ownBlock) :
  XAt qx base D (fun j=>if j=i then Am else A j) (fun j=>if j=i then cm else C j) (i+1) (w1.setCell ⟨qx,0,none⟩ (.slice A1 (i+1) c1)):=by
 obtain ⟨hqx,hO⟩:=hX
 have hlq:=(Array.getElem?_eq_some_iff.1 hqx).1
 have hqn:some qx≠(Value.slice A0 i c).ownBlock:=fun e=>by have:=(hO.lt qx e.symm).1;omega
 have e1:w1.heap[qx]?=wi.heap[qx]?:=by rw [hgrow.block qx (by simp;omega) hqn,Below.heap_alloc _ _ _ (by omega)]
 have keep:∀ {A':Option Addr} {c' n':Nat} {M':Nat→Mem},MemT wi A' c' n' M'→MemT (w1.setCell ⟨qx,0,none⟩ (.slice A1 (i+1) c1)) A' c' n' M':=fun h=>h.keep fun b cs fr hb=>by
  have hlb:=(Array.getElem?_eq_some_iff.1 hb).1
  have n1:b≠qx:=fun e=>by rw [e,hqx] at hb;simp only [Option.some.injEq,Obj.cells.injEq] at hb;exact memX_ne_out hb.2.1.symm
  have n2:some b≠(Value.slice A0 i c).ownBlock:=fun e=>by
   rcases hO.2 with ⟨h,-⟩ | ⟨g,cap,cur,h,-,hg,-⟩
   ·rw [h] at e;cases e
   ·rw [h] at e
    simp only [Value.ownBlock,Option.some.injEq] at e
    rw [e,hg] at hb
    simp only [Option.some.injEq,Obj.cells.injEq] at hb
    exact memX_ne_dim hb.2.1.symm
  rw [setCell_off _ _ _ _ _ n1,hgrow.block b (by simp;omega) n2,Below.heap_alloc _ _ _ hlb]
 refine ⟨⟨A1,c1,?_,?_⟩,fun j hj=>?_⟩
 ·rw [set_ty (e1.trans hqx)]
  rfl
 ·have e:cellsDo D (fun j=>if j=i then Am else A j) (fun j=>if j=i then cm else C j) (i+1)=cellsDo D A C i ++ [.string (D i).name,.int .i64 (D i).solve,.slice Am (D i).n cm]:=by
   rw [cellsDo,cellsDo_same (A':=A) (C':=C) i fun j hj=>⟨if_neg (by omega),if_neg (by omega)⟩]
   simp
  rw [e]
  exact own_set hown hq
 ·by_cases e:j=i
  ·subst e
   simp only [if_true]
   exact keep hMi
  ·simp only [if_neg e]
   exact keep (hM j (by omega))
theorem in_push {qd base k:Nat} {nm:ByteArray} {s:Int} {M:Nat→Mem} {v0 wi w1:World} {A A1:Option Addr} {c c1:Nat} {o:Obj} (hq:qd<base) (hb0:base=v0.heap.size) (hqd:wi.heap[qd]?=some (.cells #[.string nm,.int .i64 s,.slice A k c] 24 (0,0))) (hO:wi.ownsRow base 26 4 (.slice A k c) k (cellsMb M k)) (hK:Kept v0.heap.size (fun b=>b=qd) v0 wi)
  (hown:w1.ownsRow base 26 4 (.slice A1 (k+1) c1) (k+1) (cellsMb M (k+1))) (hgrow:(wi.alloc o).grownBy w1 (Value.slice A k c).ownBlock) :
  InAt qd base nm s M (k+1) v0 (w1.setCell ⟨qd,2,none⟩ (.slice A1 (k+1) c1)):=by
 have hlq:=(Array.getElem?_eq_some_iff.1 hqd).1
 have hqn:∀ b,b<base→some b≠(Value.slice A k c).ownBlock:=fun b hb e=>by have:=(hO.lt b e.symm).1;omega
 have e1:w1.heap[qd]?=wi.heap[qd]?:=by rw [hgrow.block qd (by simp;omega) (hqn qd hq),Below.heap_alloc _ _ _ (by omega)]
 have hsz:wi.heap.size≤w1.heap.size:=by have:=hgrow.size;simp at this;omega
 refine ⟨⟨A1,c1,?_,own_set hown hq⟩,?_⟩
 ·rw [set_ty (e1.trans hqd)]
  rfl
 ·refine ⟨hgrow.os.trans hK.os,hgrow.tape.trans hK.tape,hgrow.output.trans hK.output,by simp only [World.size_setCell];exact Nat.le_trans hK.size hsz,fun b hb hx=>?_⟩
  rw [setCell_off _ _ _ _ _ hx,hgrow.block b (by have:=hK.size;simp;omega) (hqn b (by omega)),Below.heap_alloc _ _ _ (by have:=hK.size;omega)]
  exact hK.block b hb hx
end Go.Proofs.YtaodedckffjpgafGreatDoor
