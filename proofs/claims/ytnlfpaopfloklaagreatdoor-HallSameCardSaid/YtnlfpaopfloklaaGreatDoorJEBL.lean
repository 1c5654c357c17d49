/-
  What a hall is asked to do (plain): edits at once, and one by one; what is told of a hall in memory, whatever it is made of (its own blocks are a set that no other thing lies in).
-/
import Derived.BigRegion
import Derived.Test.YtnlfpaopfloklaaGreatDoorJEBH
import Derived.Test.YtnlfpaopfloklaaGreatDoorJEBJ
import Derived.Test.YtnlfpaopfloklaaGreatDoorJEBK
namespace Go.Proofs.YtnlfpaopfloklaaGreatDoor
open Go.ChangeShapes Go.WideShapes Go.ChangeAt Go.RowKit
set_option maxRecDepth 20000
def doE (D:Nat→Dm) (n:Nat) (l:List En) (Y:List Ed):Int:=(editsV D n l Y).2.2
def doL (D:Nat→Dm) (n:Nat) (l:List En) (Y:List Ed):List En:=if doE D n l Y=0 then (editsV D n l Y).1 else l
noncomputable def doN (D:Nat→Dm) (n:Nat) (l:List En) (Y:List Ed):Nat:=if doE D n l Y=0 then (drtL D n (Y.map fun x=>numI D x.pl n)).length else 0
def edTo (l:List En) (Y:List Ed) (k:Nat):List En:=(Y.take k).foldl editV l
def noEd:Ed:=⟨[],0,false⟩
theorem edTo_succ (l:List En) (Y:List Ed) {k:Nat} (hk:k<Y.length):edTo l Y (k+1)=editV (edTo l Y k) (Y.getD k noEd):=by
 unfold edTo
 rw [List.take_succ_eq_append_getElem hk,List.foldl_append,List.getD_eq_getElem?_getD,List.getElem?_eq_getElem hk]
 rfl
section
variable {D:Nat→Dm} {n:Nat}
theorem edits_each {l:List En} (hl:Ens D n l):∀ (Y:List Ed) (i:Nat),(editsFrom D n l i Y).2.2=0→(editsFrom D n l i Y).1=edTo l Y Y.length∧∀ k,k<Y.length→editErr D n (edTo l Y k) (Y.getD k noEd)=0∧Ens D n (edTo l Y k):=by
 intro Y
 induction Y generalizing l with
 | nil=>intro i _;exact ⟨rfl,fun k hk=>absurd hk (Nat.not_lt_zero _)⟩
 | cons x r ih =>
  intro i h
  by_cases hx:editErr D n l x=0
  ·rw [editsFrom_ok r hx] at h ⊢
   obtain ⟨h1,h2⟩:=ih (hl.edit hx).2 (i+1) h
   have hs:∀ k,edTo l (x :: r) (k+1)=edTo (editV l x) r k:=fun k=>by unfold edTo;rw [List.take_succ_cons,List.foldl_cons]
   refine ⟨by rw [h1,List.length_cons,hs],fun k hk=>?_⟩
   cases k with
   | zero=>exact ⟨hx,hl⟩
   | succ k =>
    rw [hs]
    exact h2 k (by simpa using hk)
  ·rw [editsFrom_bad r hx] at h
   exact absurd h hx
theorem do_all {l:List En} (hl:Ens D n l) {Y:List Ed} (h:doE D n l Y=0):Y.length≤60∧doL D n l Y=edTo l Y Y.length∧∀ k,k<Y.length→editErr D n (edTo l Y k) (Y.getD k noEd)=0∧Ens D n (edTo l Y k):=by
 have e:=h
 unfold doE editsV at e
 by_cases h60:60<Y.length
 ·rw [if_pos h60] at e
  simp at e
 ·rw [if_neg h60,if_neg (by simpa using hl.ok)] at e
  obtain ⟨h1,h2⟩:=edits_each hl Y 0 e
  refine ⟨by omega,?_,h2⟩
  unfold doL
  rw [if_pos h]
  unfold editsV
  rw [if_neg h60,if_neg (by simpa using hl.ok)]
  exact h1
theorem do_one {l:List En} (hl:Ens D n l) {x:Ed} (h:editErr D n l x=0):doE D n l [x]=0∧doL D n l [x]=editV l x:=by
 have e:editsV D n l [x]=(editV l x,0,0):=by
  unfold editsV
  rw [if_neg (by simp),if_neg (by simpa using hl.ok),editsFrom_ok _ h]
  rfl
 have e2:doE D n l [x]=0:=by unfold doE;rw [e]
 exact ⟨e2,by unfold doL;rw [if_pos e2,e]⟩
theorem do_ens {l:List En} (hl:Ens D n l) (Y:List Ed):Ens D n (doL D n l Y):=by
 by_cases h:doE D n l Y=0
 ·obtain ⟨-,h2,h3⟩:=do_all hl h
  rw [h2]
  cases hY:Y.length with
  | zero=>exact hl
  | succ k =>
   have:=h3 k (by omega)
   rw [edTo_succ l Y (by omega)]
   exact (this.2.edit this.1).2
 ·unfold doL
  rw [if_neg h]
  exact hl
theorem cu_right {l:List En} (hr:(ruErr D n).2.2=0) (hl:Ens D n l):cuErr D n l=0:=by unfold cuErr;rw [if_neg (by simpa using hr)];exact hl.ok
end
structure HallC (HV:World→Nat→(Nat→Prop)→(Nat→Dm)→Nat→List En→Prop):Prop where
 keep:∀ {w w' h S D n l},HV w h S D n l→w.heap.size≤w'.heap.size→(∀ b,S b→w'.heap[b]?=w.heap[b]?)→HV w' h S D n l
 inS:∀ {w h S D n l},HV w h S D n l→∀ b,S b→b<w.heap.size
 right:∀ {w h S D n l},HV w h S D n l→(ruErr D n).2.2=0∧Ens D n l
 bad:∀ A0 cap n D A C w,(ruErr D n).2.2≠0→DimsV w A0 cap n D A C→Calls Tryz.prog 4 #[.agg #[.slice A0 n cap]] w fun e w'=>e=.returned (.tuple #[.pointer none,errV (ruErr D n).2.2])∧Below w.heap.size w w'
 new:∀ A0 cap n D A C w,(ruErr D n).2.2=0→DimsV w A0 cap n D A C→Calls Tryz.prog 4 #[.agg #[.slice A0 n cap]] w fun e w'=>(∃ h S,e=.returned (.tuple #[.pointer (some ⟨h,0,none⟩),.nilIface])∧HV w' h S D n []∧∀ b,S b→w.heap.size≤b)∧Below w.heap.size w w'
 edit:∀ h S D n l Ax cx ys w,HV w h S D n l→EdsV w Ax cx ys→Calls Tryz.prog 5 #[.pointer (some ⟨h,0,none⟩),.slice Ax ys.length cx] w fun e w'=>(∃ S',e=.returned (.tuple #[.int .i64 (doN D n l (lD ys):Nat),errV (doE D n l (lD ys))])∧HV w' h S' D n (doL D n l (lD ys))∧∀ b,S' b→S b∨w.heap.size≤b)∧Kept w.heap.size S w w'
 cells:∀ h S D n l w,HV w h S D n l→Calls Tryz.prog 6 #[.pointer (some ⟨h,0,none⟩)] w fun e w'=>(∃ A' c',e=.returned (.slice A' (caL D n l).length c')∧CelV w' A' c' (caL D n l))∧Below w.heap.size w w'
 entries:∀ h S D n l w,HV w h S D n l→Calls Tryz.prog 8 #[.pointer (some ⟨h,0,none⟩)] w fun e w'=>(∃ A' c' zs,e=.returned (.slice A' zs.length c')∧EnsV w' A' c' zs∧lE zs=l)∧Below w.heap.size w w'
theorem HallC.later {HV:World→Nat→(Nat→Prop)→(Nat→Dm)→Nat→List En→Prop} (C:HallC HV) {w w':World} {h:Nat} {S:Nat→Prop} {D:Nat→Dm} {n:Nat} {l:List En} (hH:HV w h S D n l) (hB:Below w.heap.size w w'):HV w' h S D n l:=C.keep hH hB.size fun b hb=>hB.block b (C.inS hH b hb)
theorem below_kept {W0 w w':World} {S:Nat→Prop} (h:Below W0.heap.size W0 w) (hk:Kept w.heap.size S w w') (hS:∀ b,S b→W0.heap.size≤b):Below W0.heap.size W0 w' :=
 ⟨hk.os.trans h.os,hk.tape.trans h.tape,hk.output.trans h.output,Nat.le_trans h.size hk.size,fun b hb=>(hk.block b (Nat.lt_of_lt_of_le hb h.size) fun e=>by have:=hS b e;omega).trans (h.block b hb)⟩
theorem ru_right {D:Nat→Dm} {n:Nat} (h:(ruErr D n).2.2=0):(allErr D n).2.2=0∧AllR D n:=by
 by_cases h1:(allErr D n).2.2=0
 ·refine ⟨h1,Classical.byContradiction fun hn=>?_⟩
  have hex:∃ i,i<n∧(rErr (D i)).2≠0:=Classical.byContradiction fun he=>hn fun i hi=>Classical.byContradiction fun hb=>he ⟨i,hi,hb⟩
  have hleast:∀ m,(∃ i,i<m∧i<n∧(rErr (D i)).2≠0)→∃ i,i<n∧(rErr (D i)).2≠0∧∀ j,j<i→(rErr (D j)).2=0:=by
   intro m
   induction m with
   | zero=>rintro ⟨i,h,-⟩;omega
   | succ m ih =>
    rintro ⟨i,h3,h4,h5⟩
    by_cases hm:∃ i,i<m∧i<n∧(rErr (D i)).2≠0
    ·exact ih hm
    ·exact ⟨i,h4,h5,fun j hj=>Classical.byContradiction fun hb=>hm ⟨j,by omega,by omega,hb⟩⟩
  obtain ⟨i0,hi0,hb0⟩:=hex
  obtain ⟨i,hi,hb,hf⟩:=hleast n ⟨i0,hi0,hi0,hb0⟩
  rw [ru1 h1 hi hb hf] at h
  exact hb h
 ·rw [ru0 h1] at h
  exact absurd h h1
theorem ru_zero {D:Nat→Dm} {n:Nat} (h1:(allErr D n).2.2=0) (h2:AllR D n):(ruErr D n).2.2=0:=by rw [ru2 h1 h2]
theorem num_lt {D:Nat→Dm} {n:Nat} {p:List Int} (h:InO D n p):∃ x:Nat,numI D p n=(x:Int)∧x<prodN D n∧placeL D n x=p:=by
 obtain ⟨h1,h2,-⟩:=numI_bound h (Nat.le_refl n)
 have h3:=place_num h
 exact ⟨(numI D p n).toNat,by omega,by omega,h3⟩
theorem sel_iff {p:Nat→Bool} {N m:Nat} (hm:m<N):(m:Int)∈selTo p N↔p m=true :=
 ⟨fun h=>by obtain ⟨j,hj,-,hp⟩:=selTo_mem _ h;have e:m=j:=(by omega);rw [e];exact hp,fun h=>sel_has hm h⟩
def ndmB:Mem:=⟨⟨#[98]⟩,-1,0,⟨#[]⟩⟩
def ndmC:Mem:=⟨⟨#[99]⟩,0,1,⟨#[]⟩⟩
def ndmM (i:Nat):Mem:=if i=0 then ndmB else ndmC
def ndmD:Dm:=⟨⟨#[97]⟩,0,2,ndmM⟩
def ndmO:Nat→Dm:=fun _=>ndmD
theorem ndm_dim:dimErr ndmD=(-1,0):=by decide +kernel
theorem ndm_mem:∀ j:Fin 2,mErr ndmD j=0:=by decide +kernel
theorem ndm_nd:ndL ndmD=[[1],[]]:=by decide +kernel
theorem ndm_err:rErr ndmD=(-1,0):=re3 (by rw [ndm_dim]) (fun j hj=>ndm_mem ⟨j,hj⟩) fun j _=>by rw [ndm_nd,←one_nd];exact one_acyc j
theorem ndm_all:(allErr ndmO 1).2.2=0:=by decide +kernel
theorem ndm_ru:(ruErr ndmO 1).2.2=0:=ru_zero ndm_all fun i _=>by show (rErr ndmD).2=0;rw [ndm_err]
theorem ndm_prod:prodN ndmO 1=2:=by decide +kernel
theorem ndm_sh:shapeErr ndmO 1 [1]=0∧leafV ndmO 1 [1]=true∧numI ndmO [1] 1=1∧byTo ndmO [0] 1=0∧mNd ndmD 0=[1]∧placeL ndmO 1 0=[0]:=by decide +kernel
theorem ndm_dirty:drE ndmO 1 [[1]]=0∧(ddL ndmO 1 [[1]]).length=2:=by
 obtain ⟨h1,h2,h3,h4,h5,h6⟩:=ndm_sh
 have he:drE ndmO 1 [[1]]=0:=by
  unfold drE
  rw [ndm_ru,if_neg (by simp),drTo_one h1 h2]
 refine ⟨he,?_⟩
 unfold ddL
 rw [if_pos he]
 have e:drN ndmO 1 [[1]]=[((1:Nat):Int)]:=by
  unfold drN
  rw [List.map_cons,List.map_nil,h3]
  rfl
 rw [e]
 unfold drtL
 rw [ndm_prod]
 have p1:dirB ndmO 1 [((1:Nat):Int)] 1=true:=dirB_iff.2 ⟨1,List.mem_singleton.2 rfl,.refl _⟩
 have p0:dirB ndmO 1 [((1:Nat):Int)] 0=true:=by
  refine dirB_iff.2 ⟨1,List.mem_singleton.2 rfl,.step ⟨0,?_,1,?_,?_⟩ (.refl _)⟩
  ·rw [h6,h4];rfl
  ·rw [h6]
   show (1:Int)∈mNd ndmD 0
   rw [h5]
   exact List.mem_singleton.2 rfl
  ·rw [h6]
   show ((1:Nat):Int)=numI ndmO [1] 1
   rw [h3]
   rfl
 rw [selTo_hit p1,selTo_hit p0]
 rfl
theorem bkO {w:World} {o:Obj} {k:Nat} {x:Obj} (h:w.heap[k]?=some x):(w.alloc o).heap[k]?=some x:=by
 rw [heap_alloc_old _ _ (Array.getElem?_eq_some_iff.1 h).1]
 exact h
theorem bkN {w:World} {cs:Array Value} {t k:Nat} (h:w.heap.size=k):(w.alloc (.cells cs t)).heap[k]?=some (.cells cs t (0,0)):=by
 subst h
 exact heap_alloc_new ..
theorem out_cellH {w w1:World} {A0:Option Addr} {n cap:Nat} (hB:Below (ownOut w A0 n cap 24).heap.size (ownOut w A0 n cap 24) w1):w1.cell? ⟨w.heap.size,0,none⟩=some (.slice A0 n cap)∧w.heap.size<w1.heap.size:=by
 have hS:=ownOut_size w A0 n cap 24
 exact ⟨(hB.cell (p:=⟨w.heap.size,0,none⟩) (by show w.heap.size<_;omega)).trans (ownOut_at ..),by have:=hB.size;omega⟩
theorem good_getE {D:Nat→Dm} {n:Nat} {l:List En} (h:Ens D n l) (p:List Int):goodC (getE l p):=by
 unfold getE
 split
 ·exact good_zero
 ·rename_i e r he
  split
  ·exact good_zero
  ·have hm:e∈l:=List.mem_of_mem_drop (i:=cntE l p) (by rw [he];exact List.mem_cons_self ..)
   exact goodC_num (h.each e hm).2.2
theorem wr_at {D:Nat→Dm} {n:Nat} {l:List En} (h:Ens D n l) {j:Nat} (hj:j<prodN D n):(wrV D n l).getD j noC=getE l (placeL D n j):=by
 rw [wr_rwL h]
 simp [rwL,List.getD,hj]
end Go.Proofs.YtnlfpaopfloklaaGreatDoor
namespace Go.Proofs.YtnlfpaopfloklaaGreatDoor
open Go.ChangeShapes Go.WideShapes Go.ChangeAt Go.RowKit
open Go.Sort (putRow Holds grow holds_putRow)
set_option maxRecDepth 20000
theorem grow_later (w:World) (os:Array Obj):Below w.heap.size w (grow w os):=⟨rfl,rfl,rfl,by simp,fun k hk=>Sort.heap_grow_old _ _ hk⟩
theorem sorted_own {w:World} {base g n cap q:Nat} {zs ys:List Int} {os:Array Obj} (h:w.ownsRow base 3 1 (.slice (some ⟨g,0,none⟩) n cap) n (mapI zs)) (hy:ys.length=n):(grow (putRow (Value.int .i64) (Sort.ahead w q) g 0 ys.toArray) os).ownsRow base 3 1 (.slice (some ⟨g,0,none⟩) n cap) n (mapI ys):=by
 have h1:=Lib.ownsRow_putRow (enc:=Value.int .i64) (q:=q) (zs:=zs) (ys:=ys) (k:=n) h hy (Nat.le_refl _)
 rw [List.take_of_length_le (by omega)] at h1
 exact own_later h1 (grow_later _ _)
theorem sorted_off {w:World} {g n b:Nat} {d:Array Int} {os:Array Obj} (hb:b<w.heap.size) (hg:b≠g):(grow (putRow (Value.int .i64) (Sort.ahead w n) g 0 d) os).heap[b]?=w.heap[b]?:=by
 rw [Sort.heap_grow_old _ _ (by simpa using hb),put_offI hg]
 rfl
theorem srt_lt {L:List Int} (h:L.Nodup):(L.mergeSort fun a b=>decide (a≤b)).Pairwise (· < ·):=by
 have hnd:List.Pairwise (fun a b=>a≠b) (L.mergeSort fun a b=>decide (a≤b)):=(List.mergeSort_perm _ _).symm.pairwise h fun {a b} h e=>h e.symm
 exact ((srt_ints _).and hnd).imp fun h=>by omega
def RK (w:World) (W0:World) (bS bF bM N:Nat) (nx:Nat→List Int) (S:List Int) (k:Nat) (v:Value) (L:List Int):Prop:=RS w W0.heap.size bS bF bM v L∧ReI nx S L k∧k≤L.length∧InN N L∧Below W0.heap.size W0 w
set_option maxHeartbeats 16000000 in
theorem nreach_any (F:Nat) (fa cp:Array Value) (nx:Nat→List Int) (N:Nat) (hent:∀ (args:Array Value) (w:World),(callFunc F args).run Tryz.prog w=.ok (.enter F args) w) (A:Option Addr) (c:Nat) (S:List Int) (w:World) (hN:N≤3000) (hSl:S.length≤3000) (hS:IntT w A c S) (hSi:InN N S) (hxi:∀ y,y<N→InN N (nx y)) (hxl:∀ y,y<N→(nx y).length≤3000)
  (hF:∀ (y:Nat) (w':World),y<N→Below w.heap.size w w'→Calls Tryz.prog F (fa ++ #[.int .i64 y] ++ cp) w' fun e w''=>(∃ A' c',e=.returned (.tuple #[.slice A' (nx y).length c',.nilIface])∧IntT w'' A' c' (nx y)∧∀ a,A'=some a→a.block<w.heap.size∨w'.heap.size≤a.block)∧Below w'.heap.size w' w'') :
  Calls Tryz.prog 57 #[.slice A S.length c,.func (.func F) fa cp] w fun e w'=>(∃ v L,e=.returned (.tuple #[v,.nilIface])∧w'.ownsRow w.heap.size 3 1 v L.length (mapI L)∧L.Pairwise (· < ·)∧∀ z,z∈L↔Rea nx S z)∧Below w.heap.size w w':=by
 have hmm := @run_makeMap Tryz.prog
 have hR0:=RS.made w
 obtain ⟨W,hW⟩:∃ W,((w.alloc (.cells #[.slice none 0 0] 38)).alloc (.map #[] 0)).alloc (.cells #[.map (some (w.heap.size+1))] 146)=W:=⟨_,rfl⟩
 have hBW:Below w.heap.size w W:=by rw [←hW];go_grown
 rw [hW] at hR0
 rw [show w.heap.size+2=w.heap.size+1+1 from rfl] at hR0
 have hm1:=meet_any w (w.heap.size+1+1) w.heap.size (w.heap.size+1) N (.slice none 0 0) [] A c S W hN hSl hSi ⟨hR0,List.prefix_refl _,List.nodup_nil,fun z hz=>(by cases hz),fun z=>(by simp),hS.later hBW,fun a ha e=>(by cases e),hBW⟩
 have HMt:Hid (∀ v L A' c' T w',T.length≤3000→InN N T→RM w' w (w.heap.size+1+1) w.heap.size (w.heap.size+1) N L A' c' T 0 v L→Calls Tryz.prog 81 #[.slice A' T.length c',.pointer (some ⟨w.heap.size+1+1,0,none⟩),.pointer (some ⟨w.heap.size,0,none⟩)] w' fun e w''=>e=.returned (.tuple #[])∧∃ v' L',RM w'' w (w.heap.size+1+1) w.heap.size (w.heap.size+1) N L A' c' T T.length v' L'):=fun v L A' c' T w' h1 h2 h3=>meet_any w _ _ _ N v L A' c' T w' hN h1 h2 h3
 have HXi:=hid_of hxi
 have HXl:=hid_of hxl
 have HF:=hid_of hF
 have HN3:Hid (N≤3000):=hN
 obtain ⟨sl,hsl⟩:∃ sl,S.length=sl:=⟨_,rfl⟩
 have HSl:Hid (S.length=sl):=hsl
 rw [hsl] at hm1 ⊢
 have hem:=ent_meet
 clear hR0 hBW hF hxi hxl hS hSi hsl hSl
 go_enter Tryz.func57,Tryz.ntmps57
 go_wp2_with fail
 refine hm1.mono ?_
 rintro e w1 ⟨rfl,v1,L1,hR1⟩
 have HK1:Hid (∃ v L,RK w1 w (w.heap.size+1+1) w.heap.size (w.heap.size+1) N nx S 0 v L):=by
  obtain ⟨r1,r2,r3,r4,r5,r6,r7,r8⟩:=hR1
  refine ⟨v1,L1,r1,ReI.first r3 fun z=>?_,Nat.zero_le _,r4,r8⟩
  rw [r5 z,←HSl.out,List.take_length]
 clear hR1 hm1 hW
 go_wp2_with fail
 go_loopg [9] N (fun gg s9 wr => ∃ (k:Nat),k≤N∧gg=N-k∧s9=.int .i64 k∧Hid (∃ v L,RK wr w (w.heap.size+1+1) w.heap.size (w.heap.size+1) N nx S k v L))
 case atStart=>exact ⟨0,Nat.zero_le _,rfl,rfl,HK1⟩
 case round =>
  obtain ⟨k,hk,rfl,rfl,HK⟩:=hrel
  obtain ⟨v,L,hRK⟩:=HK.out
  have HR:=hid_of hRK
  obtain ⟨hRS,hRI,hkL,hin,hBw⟩:=hRK
  obtain ⟨c0,c1,f1,hbs,hbf⟩:=hRS.cells
  have hLN:=inN_few hin hRI.nd
  obtain ⟨AO,cO,hv⟩:∃ AO cO,v=.slice AO L.length cO:=by
   rcases hRS.own.2 with ⟨h1,h2⟩ | ⟨g,cap,cur,h1,-⟩
   ·exact ⟨none,0,by rw [h1,h2]⟩
   ·exact ⟨_,_,h1⟩
  subst hv
  obtain ⟨ln,hln⟩:∃ ln,L.length=ln:=⟨_,rfl⟩
  have HLn:Hid (L.length=ln):=hln
  rw [hln] at c1 hkL hLN
  have hlnI:(ln:Int)≤3000:=by omega
  by_cases hlt:k<ln
  ·have hki:(k:Int)<(ln:Int):=by omega
   have hkT:k<L.length:=by rw [HLn.out];exact hlt
   obtain ⟨y,hy,hyN⟩:=hin _ (getD_memI hkT)
   obtain ⟨A1,c1',e1,hI1⟩:=intT_own hRS.own
   cases e1
   obtain ⟨hcS,-,hS0 | ⟨bt,cs,fr,rfl,hbT,hcl⟩⟩:=hI1
   ·rw [hS0] at hkT;simp at hkT
   have cx:=hcl k hkT
   have hbt:bt<wr.heap.size:=(Array.getElem?_eq_some_iff.1 hbT).1
   rw [HLn.out] at hcS
   rw [hy] at cx
   have hcSI:(ln:Int)≤(cO:Int):=by omega
   have hf:=HF.out y wr hyN hBw
   have hxy:=HXl.out y hyN
   obtain ⟨T,hT⟩:∃ T,nx y=T:=⟨_,rfl⟩
   rw [hT] at hf hxy
   have HT:Hid (nx y=T):=hT
   have HNext:Hid (∀ A' c' w3,Below wr.heap.size wr w3→IntT w3 A' c' T→(∀ a,A'=some a→a.block<w.heap.size∨wr.heap.size≤a.block)→RM w3 w (w.heap.size+1+1) w.heap.size (w.heap.size+1) N L A' c' T 0 (.slice (some ⟨bt,0,none⟩) L.length cO) L):=fun A' c' w3 hb3 hI3 hA3=>by
    obtain ⟨g1,g2,g3,g4,g5⟩:=HR.out
    refine ⟨g1.later hb3,List.prefix_refl _,g2.nd,g4,fun z=>by simp,hI3,fun a ha e=>?_,onB g5 hb3⟩
    have h1:=own_blk g1.own e
    rcases hA3 a ha with h | h
    ·omega
    ·omega
   have HDone:Hid (∀ A' c' w4 v' L',RM w4 w (w.heap.size+1+1) w.heap.size (w.heap.size+1) N L A' c' T T.length v' L'→∃ v L,RK w4 w (w.heap.size+1+1) w.heap.size (w.heap.size+1) N nx S (k+1) v L):=fun A' c' w4 v' L' h=>by
    obtain ⟨r1,r2,r3,r4,r5,r6,r7,r8⟩:=h
    obtain ⟨g1,g2,g3,g4,g5⟩:=HR.out
    refine ⟨v',L',r1,g2.next hkT hy r2 r3 fun z=>?_,?_,r4,r8⟩
    ·rw [r5 z,List.take_length,HT.out]
    ·have:=r2.length_le
     omega
   have HTi:Hid (InN N T):=by rw [←hT];exact HXi.out y hyN
   obtain ⟨tl,htl⟩:∃ tl,T.length=tl:=⟨_,rfl⟩
   have HTl:Hid (T.length=tl):=htl
   rw [htl] at hf hxy
   have hty:(y:Int)<3000:=by have:=HN3.out;omega
   clear hRS hRI hin hBw hcl hbT hy hT htl f1
   go_wp2_with fail
   refine hf.mono ?_
   rintro e w3 ⟨⟨A',c',rfl,hI3,hA3⟩,hb3⟩
   have hmt:=HMt.out _ L A' c' T w3 (by rw [HTl.out];exact hxy) HTi.out (HNext.out A' c' w3 hb3 hI3 hA3)
   rw [HTl.out] at hmt
   clear hf hI3 hA3 hb3
   go_wp2_with fail
   refine hmt.mono ?_
   rintro e w4 ⟨rfl,v',L',hR4⟩
   have HK4:=hid_of (HDone.out A' c' w4 v' L' (by rw [HTl.out];exact hR4))
   clear hmt hR4
   go_wp2_with fail
   go_roundg (N-(k+1))
   case measure=>omega
   case rel=>exact ⟨k+1,by omega,rfl,by go_num,HK4⟩
  ·have hke:k=ln:=by omega
   subst hke
   have HAll:Hid (∀ z,z∈L↔Rea nx S z):=by
    have h:=hRI
    rw [←HLn.out] at h
    exact h.all
   have HLt:Hid ((L.mergeSort fun a b=>decide (a≤b)).Pairwise (· < ·)):=srt_lt hRI.nd
   have HMm:Hid (∀ z,z∈(L.mergeSort fun a b=>decide (a≤b))↔z∈L):=fun z=>(List.mergeSort_perm _ _).mem_iff
   have HLl:Hid ((L.mergeSort fun a b=>decide (a≤b)).length=k):=by show _=_;rw [List.length_mergeSort];exact HLn.out
   by_cases hz:Value.slice AO k cO=.slice none 0 0
   ·cases hz
    have hso:=Any.slices_Sort_int_none Tryz.lays189 none 0 wr
    have HZ0:Hid ((L.mergeSort fun a b=>decide (a≤b))=[]):=List.eq_nil_of_length_eq_zero HLl.out
    have HBw:Hid (Below w.heap.size w wr):=hBw
    clear hRS hRI hin hBw f1
    go_wp2_with fail
    refine Calls.mono hso ?_
    rintro e w4 ⟨rfl,rfl⟩
    go_wp2_with fail
    go_returns
    refine ⟨⟨_,L.mergeSort fun a b=>decide (a≤b),rfl,by rw [HZ0.out];exact World.ownsRow_nil _ _ _ _,HLt.out,fun z=>(HMm.out z).trans (HAll.out z)⟩,HBw.out⟩
   ·have hO:=hRS.own
    rw [HLn.out] at hO
    obtain ⟨gg,cc,hv2,hgb,hgl,hnc,hcm,-,hH⟩:=Lib.holds_of_ownsRow (enc:=Value.int .i64) (zs:=L) hO hz
    cases hv2
    have hso:=Any.slices_Sort_int Tryz.lays189 gg 0 cO L wr hH hgl (by have:=HLn.out;omega)
    rw [HLn.out] at hso
    obtain ⟨ys,hys⟩:∃ ys,(L.mergeSort fun x y=>decide (x≤y))=ys:=⟨_,rfl⟩
    rw [hys] at hso HLt HMm HLl
    have hne:w.heap.size≠gg:=fun e=>(hRS.ne.2.2.2 gg rfl).2.1 e.symm
    have HOs:Hid (∀ q2 os,(grow (putRow (Value.int .i64) (Sort.ahead wr q2) gg 0 ys.toArray) os).ownsRow w.heap.size 3 1 (.slice (some ⟨gg,0,none⟩) k cO) k (mapI ys)):=fun q2 os=>sorted_own hO HLl.out
    have HCs:Hid (∀ q2 os,(grow (putRow (Value.int .i64) (Sort.ahead wr q2) gg 0 ys.toArray) os).cell? ⟨w.heap.size,0,none⟩=some (.slice (some ⟨gg,0,none⟩) k cO)∧w.heap.size<(grow (putRow (Value.int .i64) (Sort.ahead wr q2) gg 0 ys.toArray) os).heap.size):=fun q2 os=>by
     have h:=(World.cell?_of_block (a:=⟨w.heap.size,0,none⟩) (sorted_off (w:=wr) (n:=q2) (d:=ys.toArray) (os:=os) hbf hne)).trans hRS.cells.2.1
     rw [HLn.out] at h
     exact ⟨h,(Array.getElem?_eq_some_iff.1 ((sorted_off (w:=wr) (n:=q2) (d:=ys.toArray) (os:=os) hbf hne).trans hRS.hF)).1⟩
    have HBs:Hid (∀ q2 os,Below w.heap.size w (grow (putRow (Value.int .i64) (Sort.ahead wr q2) gg 0 ys.toArray) os)):=fun q2 os=>sorted_belowI hBw hgb
    clear hRS hRI hin hBw hO hH hys f1
    go_wp2_with fail
    refine Calls.mono hso ?_
    rintro e w4 ⟨rfl,q2,os,hw4⟩
    have HO4:Hid (w4.ownsRow w.heap.size 3 1 (.slice (some ⟨gg,0,none⟩) k cO) k (mapI ys)):=by rw [hw4];exact HOs.out q2 os
    have HB4:Hid (Below w.heap.size w w4):=by rw [hw4];exact HBs.out q2 os
    have c4:w4.cell? ⟨w.heap.size,0,none⟩=some (.slice (some ⟨gg,0,none⟩) k cO):=by rw [hw4];exact (HCs.out q2 os).1
    have hs4:w.heap.size<w4.heap.size:=by rw [hw4];exact (HCs.out q2 os).2
    clear hw4 hso c0 c1
    go_wp2_with fail
    go_returns
    exact ⟨⟨_,ys,rfl,by rw [HLl.out];exact HO4.out,HLt.out,fun z=>(HMm.out z).trans (HAll.out z)⟩,HB4.out⟩
end Go.Proofs.YtnlfpaopfloklaaGreatDoor
namespace Go.Proofs.YtnlfpaopfloklaaGreatDoor
open Go.ChangeShapes Go.WideShapes Go.ChangeAt Go.RowKit
set_option maxRecDepth 20000
section
variable {D:Nat→Dm} {n:Nat}
theorem rows_in (hR:AllR D n) (hE:(allErr D n).2.2=0) (y:Nat) (hy:y<prodN D n):InN (prodN D n) ((rowsL D n).getD y []):=fun z hz=>by
 have:=rows_inn hR hE y (by rw [rows_len];exact hy) z hz
 rw [rows_len] at this
 exact ⟨z.toNat,by omega,by omega⟩
end
end Go.Proofs.YtnlfpaopfloklaaGreatDoor
