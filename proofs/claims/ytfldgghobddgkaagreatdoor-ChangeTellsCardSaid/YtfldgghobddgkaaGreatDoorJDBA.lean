/-
  A formula's text read into a row of the call's own; its refs called otherwise, and written anew: what refer answers.
-/
import Derived.Test.YtfldgghobddgkaaGreatDoorJDAQ
import Derived.Test.YtfldgghobddgkaaGreatDoorJDAZ
namespace Go.Proofs.YtfldgghobddgkaaGreatDoor
open Go Go.ChangeShapes Go.WideShapes Go.ChangeAt Go.RowKit Go.Lib
set_option maxRecDepth 20000
def NdO (w:World) (N:Nat) (A:Option Addr) (c:Nat) (L:List Nd):Prop:=w.ownsRow N 62 5 (.slice A L.length c) L.length (cellsN L)
set_option maxHeartbeats 1000000 in
theorem ball_own (N p:Nat) (b:Bld) (w:World) (hN:N≤w.heap.size) (h1:b.nodes.length+opsN b.waiting≤200) (h2:b.ready.length≤200) (h3:opsN b.waiting+1≤b.ready.length) (h4:b.waiting.length≤200) (hB:BldAt N p b w) :
  Calls Tryz.prog 123 #[.pointer (some ⟨p,0,none⟩)] w fun e w'=>(∃ A c,e=.returned (.slice A (settleB 0 b).nodes.length c)∧NdO w' N A c (settleB 0 b).nodes)∧Kept N (fun k=>k=p) w w':=by
 have h:=settle_any N p b 0 w hN h1 h2 h3 h4 hB
 generalize settleB 0 b=b1 at *
 clear hB
 go_enter Tryz.func123,Tryz.ntmps123
 go_wp2_with fail
 refine h.mono ?_
 rintro e w1 ⟨rfl,⟨AN,cN,AR,cR,AW,cW,hV⟩,hK⟩
 have c0:=hV.c0
 have HN:Hid (NdO w1 N AN cN b1.nodes):=hV.nod
 have HK:Hid (Kept N (fun k=>k=p) w w1):=hK
 clear hV hK h
 go_wp2_with fail
 go_ret
 exact ⟨⟨_,_,rfl,HN.out⟩,HK.out⟩
set_option maxHeartbeats 4000000 in
theorem fparse_own (s:ByteArray) (w:World) (h100:s.size≤100):Calls Tryz.prog 99 #[.string s] w fun e w'=>(∃ A c,e=.returned (.tuple #[.slice A (prsL s).length c,.int .i64 (prsA s:Int),errV (prsE s)])∧NdO w' (w.heap.size+4) A c (prsL s))∧Below w.heap.size w w':=by
 have hmf:∀ (fn:Fn) (first cap:Array Value) (w:World),(Instr.makeFunc fn first cap).run Tryz.prog w=.ok (.func fn first cap) w:=fun _ _ _ _=>rfl
 have h100':(s.size:Int)≤100:=by omega
 have HAt:Hid ((goneB s).1.at'≤s.size):=all_in _ (Nat.zero_le _)
 have hrd:=fread_any (tkB (w.heap.size+4) w.heap.size) (tkB_ok _ _) s noB (newB w) (by show s.size≤100;exact h100) (by rw [newB_size];rfl) (by rw [newB_size];exact Nat.lt_succ_self _) (newB_at w) fit_new (goneB s) rfl
 have HB:Hid (Below w.heap.size w (newB w)):=newB_below w
 obtain ⟨W,hW⟩:∃ W,newB w=W:=⟨_,rfl⟩
 have HZ:Hid ((newB w).heap.size=w.heap.size+1):=newB_size w
 rw [hW] at hrd HB HZ
 unfold newB at hW
 have hfv:(tkB (w.heap.size+4) w.heap.size).fv=.func (.func 120) #[.pointer (some ⟨w.heap.size,0,none⟩)] #[]:=rfl
 rw [hfv] at hrd
 have HI:Hid (∀ st w',(tkB (w.heap.size+4) w.heap.size).I st w'→BldAt (w.heap.size+4) w.heap.size st w'):=fun _ _ h=>h
 have HG:Hid (∀ a o ph st,(tkB (w.heap.size+4) w.heap.size).G a o ph st→FitB a o ph st):=fun _ _ _ _ h=>h
 have HP:Hid ((tkB (w.heap.size+4) w.heap.size).p=w.heap.size∧(tkB (w.heap.size+4) w.heap.size).N=w.heap.size+4):=⟨rfl,rfl⟩
 generalize tkB (w.heap.size+4) w.heap.size=T at *
 cases hx:(goneB s).2
 ·have hE:prsE s=2:=by unfold prsE;rw [if_neg (by omega),if_neg (by rw [hx];decide)]
  have hA:prsA s=(goneB s).1.at':=by unfold prsA;rw [if_neg (by omega),if_neg (by rw [hx];decide)]
  have hL:prsL s=[]:=by unfold prsL;rw [if_neg (by rw [hE];decide)]
  rw [hE,hA,hL,errV_some (by decide)]
  have HX:Hid ((goneB s).2=false):=hx
  clear hE hA hL hx
  go_enter Tryz.func99,Tryz.ntmps99
  go_wp2_with fail
  refine hrd.mono ?_
  rintro e w1 ⟨⟨hk,-⟩,⟨h1,-⟩ | ⟨-,rfl⟩⟩
  ·exact absurd (HX.out.symm.trans h1) (by decide)
  have HB1:Hid (Below w.heap.size w w1):=below_of_kept HB.out hk (by rw [HP.out.1];exact Nat.le_refl _)
  rw [errV_some (by decide)]
  clear hk hrd
  go_wp2_with fail
  go_returns
  exact ⟨⟨none,0,rfl,World.ownsRow_nil _ _ _ _⟩,HB1.out⟩
 ·have hE:prsE s=formErr (nodesP s):=by unfold prsE;rw [if_neg (by omega),if_pos hx]
  have hA:prsA s=0:=by unfold prsA;rw [if_neg (by omega),if_pos hx]
  have HX:Hid ((goneB s).2=true):=hx
  have HE:Hid (prsE s=formErr (nodesP s)):=hE
  have HLd:Hid (prsL s=if prsE s=0 then nodesP s else []):=rfl
  have HNd:Hid (nodesP s=(settleB 0 (goneB s).1.st).nodes):=rfl
  rw [hE,hA]
  clear hE hA hx
  go_enter Tryz.func99,Tryz.ntmps99
  go_wp2_with fail
  refine hrd.mono ?_
  rintro e w1 ⟨⟨hk,hz1⟩,⟨-,rfl,hI,hG⟩ | ⟨h1,-⟩⟩
  case inr=>exact absurd (HX.out.symm.trans h1) (by decide)
  have HB1:Hid (Below w.heap.size w w1):=below_of_kept HB.out hk (by rw [HP.out.1];exact Nat.le_refl _)
  obtain ⟨f1,f2,f3,f4,f5⟩:=HG.out _ _ _ _ hG
  simp only [if_true] at f2
  rw [HP.out.2] at hz1
  have hat:(goneB s).1.at'≤200:=by have:=HAt.out;omega
  have hal:=ball_own (w.heap.size+4) w.heap.size (goneB s).1.st w1 hz1 (by omega) (by omega) f2 (by omega) (HI.out _ _ hI)
  clear hk hrd hI hG f1 f2 f3 f4 f5
  rw [←HNd.out] at hal
  obtain ⟨L,hLn⟩:∃ L,nodesP s=L:=⟨_,rfl⟩
  have HLn:Hid (nodesP s=L):=hLn
  rw [hLn] at hal HE HLd
  clear hLn
  go_wp2_with fail
  refine hal.mono ?_
  rintro e w2 ⟨⟨A,c,rfl,hN2⟩,hk2⟩
  have HB2:Hid (Below w.heap.size w w2):=⟨hk2.os.trans HB1.out.os,hk2.tape.trans HB1.out.tape,hk2.output.trans HB1.out.output,Nat.le_trans HB1.out.size hk2.size,fun k hk'=>by rw [hk2.block k (by omega) (by omega)];exact HB1.out.block k hk'⟩
  have HN2:Hid (NdO w2 (w.heap.size+4) A c L):=hN2
  have hck:=fchk_any A c L w2 (nds_of hN2)
  clear hk2 hN2 hal
  by_cases h0:formErr L=0
  ·have HL:Hid (prsL s=L):=by show _=_;rw [HLd.out,HE.out,if_pos h0]
   rw [h0,errV_zero] at hck
   have HF:Hid (formErr L=0):=h0
   clear h0
   go_wp2_with fail
   refine hck.mono ?_
   rintro e w3 ⟨rfl,hb3⟩
   have HB3:Hid (Below w.heap.size w w3):=onB HB2.out hb3
   have HN3:Hid (NdO w3 (w.heap.size+4) A c L):=own_later HN2.out hb3
   clear hb3 hck
   go_wp2_with fail
   go_returns
   exact ⟨⟨A,c,by rw [HL.out,HLn.out,HF.out];rfl,by rw [HL.out];exact HN3.out⟩,HB3.out⟩
  ·have HL:Hid (prsL s=[]):=by show _=_;rw [HLd.out,HE.out,if_neg h0]
   rw [errV_some h0] at hck
   have HF:Hid (errV (formErr L)=.iface 69 (.int .i64 (formErr L))):=errV_some h0
   clear h0
   go_wp2_with fail
   refine hck.mono ?_
   rintro e w3 ⟨rfl,hb3⟩
   have HB3:Hid (Below w.heap.size w w3):=onB HB2.out hb3
   clear hb3 hck
   go_wp2_with fail
   go_returns
   exact ⟨⟨none,0,by rw [HL.out,HLn.out,HF.out];rfl,by rw [HL.out];exact World.ownsRow_nil _ _ _ _⟩,HB3.out⟩
def renN (old new:ByteArray) (x:Nd):Nd:=if x.op=2∧same x.name old=true then ⟨x.op,x.n,new,x.left,x.right⟩ else x
def hasN (old:ByteArray) (l:List Nd):Bool:=l.any fun x=>decide (x.op=2) && same x.name old
def renL (old new:ByteArray) (l:List Nd):List Nd:=l.map (renN old new)
def refT (old new t:ByteArray):ByteArray:=if t.size=0 then t else if hasN old (prsL t)=true then printT (renL old new (prsL t)) else t
theorem ren_err {old new:ByteArray} (hn:nameErr new=0) {x:Nd} {i:Nat} (h:ndErr x i=0):ndErr (renN old new x) i=0:=by
 unfold renN
 split
 ·rename_i h2
  unfold ndErr at h ⊢
  simp only [h2.1] at h ⊢
  simp only [hn] at *
  simp at h ⊢
  omega
 ·exact h
theorem ren_uses (old new:ByteArray) (x:Nd) (k:Nat):uses (renN old new x) k=uses x k:=by unfold renN;split <;> rfl
theorem ren_no (old new:ByteArray):renN old new noN=noN:=by unfold renN;rw [if_neg (by intro h;exact absurd h.1 (by decide))]
theorem renL_at (old new:ByteArray) (l:List Nd) (i:Nat):(renL old new l).getD i noN=renN old new (l.getD i noN):=by
 unfold renL
 rw [List.getD_eq_getElem?_getD,List.getD_eq_getElem?_getD,List.getElem?_map]
 cases l[i]? with
 | none=>exact (ren_no old new).symm
 | some x=>rfl
theorem renL_used (old new:ByteArray) (l:List Nd) (m:Nat):∀ k,usedTo (renL old new l) k m=usedTo l k m
 | 0=>rfl
 | k+1=>by rw [usedTo,usedTo,renL_used old new l m k,renL_at,ren_uses]
theorem renL_len (old new:ByteArray) (l:List Nd):(renL old new l).length=l.length:=List.length_map ..
theorem ren_form {old new:ByteArray} (hn:nameErr new=0) {l:List Nd} (h:formErr l=0):formErr (renL old new l)=0:=by
 obtain ⟨a1,a2,a3,a4⟩:=form_right h
 refine form_good (by rw [renL_len];omega) (by rw [renL_len];exact a2) (fun j hj=>?_) fun j hj=>?_
 ·rw [renL_len] at hj
  unfold badN
  rw [renL_at]
  exact decide_eq_false fun e=>e (ren_err (old:=old) hn (a3 j hj))
 ·rw [renL_len] at hj
  unfold oddN
  rw [renL_len,renL_used]
  have:=a4 j hj
  simp [this]
def renTo (old new:ByteArray) (l:List Nd) (j:Nat):List Nd:=(l.take j).map (renN old new) ++ l.drop j
theorem renTo_len (old new:ByteArray) (l:List Nd) (j:Nat):(renTo old new l j).length=l.length:=by unfold renTo;simp;omega
theorem renTo_at (old new:ByteArray) (l:List Nd) {j:Nat} (hj:j<l.length):(renTo old new l j).getD j noN=l.getD j noN:=by
 unfold renTo
 rw [List.getD_eq_getElem?_getD,List.getElem?_append_right (by simp;omega),List.getElem?_drop,List.getD_eq_getElem?_getD]
 congr 2
 simp
 omega
theorem renTo_one (old new:ByteArray) (l:List Nd) {j:Nat} (hj:j<l.length):renTo old new l (j+1)=(renTo old new l j).set j (renN old new (l.getD j noN)):=by
 refine List.ext_getElem? fun m=>?_
 rw [List.getElem?_set]
 have hl:=renTo_len old new l j
 by_cases hm:j=m
 ·subst hm
  rw [if_pos rfl,if_pos (by omega)]
  unfold renTo
  rw [List.getElem?_append_left (by simp;omega),List.getElem?_map,List.getElem?_take,if_pos (by omega),List.getD_eq_getElem?_getD,List.getElem?_eq_getElem hj]
  rfl
 ·rw [if_neg hm]
  unfold renTo
  by_cases h2:m<j
  ·rw [List.getElem?_append_left (by simp;omega),List.getElem?_append_left (by simp;omega),List.getElem?_map,List.getElem?_map,List.getElem?_take,List.getElem?_take,if_pos h2,if_pos (by omega)]
  ·rw [List.getElem?_append_right (by simp;omega),List.getElem?_append_right (by simp;omega),List.getElem?_drop,List.getElem?_drop]
   congr 1
   simp
   omega
theorem renTo_all (old new:ByteArray) (l:List Nd):renTo old new l l.length=renL old new l:=by
 unfold renTo renL
 rw [List.take_length,List.drop_length,List.append_nil]
theorem cellsN_name {L:List Nd} (x:Nd) (nm:ByteArray):∀ {j:Nat},j<L.length→L.getD j noN=x→(cellsN L).set (j*5+2) (.string nm)=cellsN (L.set j ⟨x.op,x.n,nm,x.left,x.right⟩):=by
 induction L with
 | nil=>intro j h;cases h
 | cons y r ih =>
  intro j hj hx
  cases j with
  | zero =>
   simp only [List.getD_cons_zero] at hx
   subst hx
   rfl
  | succ j =>
   rw [show (j+1)*5+2=(j*5+2)+5 by omega]
   show (cellsNd1 y ++ cellsN r).set (j*5+2+5) _=cellsNd1 y ++ cellsN (r.set j _)
   rw [List.set_append_right _ _ (by show 5≤_;omega),show j*5+2+5-(cellsNd1 y).length=j*5+2 by show j*5+2+5-5=_;omega,ih (by simpa using hj) (by simpa using hx)]
theorem hasN_one {old:ByteArray} {l:List Nd} {j:Nat} (hj:j<l.length):hasN old (l.take (j+1))=(hasN old (l.take j) || (decide ((l.getD j noN).op=2) && same (l.getD j noN).name old)):=by
 unfold hasN
 rw [List.take_succ_eq_append_getElem hj,List.any_append,List.getD_eq_getElem?_getD,List.getElem?_eq_getElem hj]
 simp
set_option maxHeartbeats 1000000 in
theorem rn2_any (s new old:ByteArray) (b1 b2:Nat) (w:World) (h1:w.cell? ⟨b1,0,none⟩=some (.string new)) (h2:w.cell? ⟨b2,0,none⟩=some (.string old)) :
  Calls Tryz.prog 74 #[.string s,.pointer (some ⟨b1,0,none⟩),.pointer (some ⟨b2,0,none⟩)] w fun e w'=>e=.returned (.tuple #[.string new,.bool (same s old)])∧Below w.heap.size w w':=by
 go_enter Tryz.func74,Tryz.ntmps74
 go_upto_region 1 with fail
 go_quiet (fail)
 go_wp2_with fail
 go_returns
 exact ⟨by simp [same],below_drewN (Below.refl _ w) _⟩
theorem ba_nil {t:ByteArray} (h:t.size=0):t=⟨#[]⟩:=by
 cases t with
 | mk d=>congr;exact Array.eq_empty_of_size_eq_zero h
set_option maxHeartbeats 4000000 in
theorem refer_any (t new old:ByteArray) (b1 b2:Nat) (w:World) (h1:w.cell? ⟨b1,0,none⟩=some (.string new)) (h2:w.cell? ⟨b2,0,none⟩=some (.string old)) (ht:t.size=0∨(t.size≤100∧prsE t=0)) (hn:nameErr new=0) (hE:TabE w) :
  Calls Tryz.prog 73 #[.string t,.func (.func 74) #[] #[.pointer (some ⟨b1,0,none⟩),.pointer (some ⟨b2,0,none⟩)]] w fun e w'=>e=.returned (.tuple #[.string (refT old new t),errV 0])∧Below w.heap.size w w':=by
 by_cases h0:t.size=0
 ·have hem:t.toList.isEmpty=true:=by rw [empty_same];simpa using h0
  have hR:refT old new t=⟨#[]⟩:=by unfold refT;rw [if_pos h0];exact ba_nil h0
  rw [hR]
  clear hR h0 ht
  go_enter Tryz.func73,Tryz.ntmps73
  go_wp2_with fail
  go_returns
  exact ⟨rfl,Below.refl _ _⟩
 obtain ⟨h100,hpe⟩:=ht.resolve_left h0
 have hem:t.toList.isEmpty=false:=by rw [empty_same];simpa using h0
 have hp:=fparse_own t w h100
 rw [hpe,errV_zero] at hp
 have hfo:=form_prs hpe
 have HR:Hid (refT old new t=if hasN old (prsL t)=true then printT (renL old new (prsL t)) else t):=by show _=_;unfold refT;rw [if_neg h0]
 obtain ⟨l,hl⟩:∃ l,prsL t=l:=⟨_,rfl⟩
 rw [hl] at hp hfo HR
 obtain ⟨f1,f2,-,-⟩:=form_right hfo
 have HF:=hid_of hfo
 have HN:=hid_of hn
 have HE:=hid_of hE
 have HC1:=hid_of h1
 have HC2:=hid_of h2
 have hb1l:=World.block_lt_of_cell? _ _ h1
 have hb2l:=World.block_lt_of_cell? _ _ h2
 obtain ⟨n,hnn⟩:∃ n,l.length=n:=⟨_,rfl⟩
 have HL:=hid_of hnn
 rw [hnn] at hp f1 f2
 have hnI:(n:Int)≤30:=by omega
 clear ht hpe hl hfo hn hE h1 h2 hnn
 go_enter Tryz.func73,Tryz.ntmps73
 go_wp2_with fail
 refine hp.mono ?_
 rintro e w1 ⟨⟨A,c,rfl,hO⟩,hb1⟩
 unfold NdO at hO
 rw [HL.out] at hO
 obtain ⟨g,cg,hAe⟩:=own_mb hO f1
 cases hAe
 have HI0:Hid (w1.ownsRow (w.heap.size+4) 62 5 (.slice (some ⟨g,0,none⟩) n c) n (cellsN (renTo old new l 0))∧Below w.heap.size w w1):=⟨hO,hb1⟩
 have hcI:(n:Int)≤(c:Int):=by have:=(ow_blk hO).2.2.1;omega
 clear hO hb1 hp
 go_wp2_with fail
 go_loopg [9,27] n (fun gg s9 s27 wr => ∃ j:Nat,j≤n∧gg=n-j∧s9=.bool (hasN old (l.take j))∧s27=.int .i64 j∧Hid (wr.ownsRow (w.heap.size+4) 62 5 (.slice (some ⟨g,0,none⟩) n c) n (cellsN (renTo old new l j))∧Below w.heap.size w wr))
 case atStart=>exact ⟨0,Nat.zero_le _,rfl,rfl,rfl,HI0⟩
 case round =>
  obtain ⟨j,hj,rfl,rfl,rfl,HJ⟩:=hrel
  by_cases hjl:j<n
  ·have hji:(j:Int)<(n:Int):=by omega
   have hjL:j<l.length:=by rw [HL.out];exact hjl
   have hrow:=HJ.out.1
   obtain ⟨hgB,hgl,-,-,cu,hcu⟩:=ow_blk hrow
   obtain ⟨x0,x1,x2,x3,x4⟩:=cellsN_at (renTo old new l j) j (by rw [renTo_len];exact hjL)
   rw [renTo_at old new l hjL] at x0 x1 x2 x3 x4
   have e0:=(hrow.cellAt (j*5) (by omega)).trans x0
   have e1:=(hrow.cellAt (j*5+1) (by omega)).trans x1
   have e2:=(hrow.cellAt (j*5+2) (by omega)).trans x2
   have e3:=(hrow.cellAt (j*5+3) (by omega)).trans x3
   have e4:=(hrow.cellAt (j*5+4) (by omega)).trans x4
   have hone:=renTo_one old new l hjL
   have hhas:=hasN_one (old:=old) hjL
   have hset:=fun nm=>cellsN_name (L:=renTo old new l j) (l.getD j noN) nm (by rw [renTo_len];exact hjL) (renTo_at old new l hjL)
   have hsame:(renTo old new l j).set j (l.getD j noN)=renTo old new l j:=by
    refine List.ext_getElem? fun m=>?_
    rw [List.getElem?_set]
    split
    ·rename_i e
     subst e
     rw [if_pos (by rw [renTo_len];exact hjL)]
     have:=renTo_at old new l hjL
     rw [List.getD_eq_getElem?_getD,List.getElem?_eq_getElem (by rw [renTo_len];exact hjL)] at this
     rw [List.getElem?_eq_getElem (by rw [renTo_len];exact hjL),←this]
     rfl
    ·rfl
   generalize l.getD j noN=x at e0 e1 e2 e3 e4 hone hhas hset hsame x2
   obtain ⟨op,xn,xm,xl,xr⟩:=x
   simp only at e0 e1 e2 e3 e4 hhas x2
   obtain ⟨z,hz⟩:∃ z,wr.alloc (.cells #[.int .i64 op,.int .i64 xn,.string xm,.int .i64 xl,.int .i64 xr] 62)=z:=⟨_,rfl⟩
   have hBz:Below wr.heap.size wr z:=by rw [←hz];go_grown
   have hzb:z.heap[wr.heap.size]?=some (.cells #[.int .i64 op,.int .i64 xn,.string xm,.int .i64 xl,.int .i64 xr] 62 (0,0)):=by rw [←hz];exact heap_alloc_new ..
   have hzG:wr.heap.size<z.heap.size:=by rw [←hz];simp
   have z0:z.cell? ⟨wr.heap.size,0,none⟩=some (.int .i64 op):=(Lib.cell_of_heap hzb 0).trans rfl
   have z2:z.cell? ⟨wr.heap.size,2,none⟩=some (.string xm):=(Lib.cell_of_heap hzb 2).trans rfl
   have hBwz:=onB HJ.out.2 hBz
   have HZ:=hid_of hBwz
   by_cases hop:op=2
   ·subst hop
    have hcall:=rn2_any xm new old b1 b2 z ((hBwz.cell (p:=⟨b1,0,none⟩) hb1l).trans HC1.out) ((hBwz.cell (p:=⟨b2,0,none⟩) hb2l).trans HC2.out)
    cases hsm:same xm old
    ·rw [hsm] at hcall hhas
     have hren:renN old new ⟨2,xn,xm,xl,xr⟩=⟨2,xn,xm,xl,xr⟩:=by unfold renN;rw [if_neg (by rintro ⟨-,e⟩;rw [hsm] at e;cases e)]
     have HFin:Hid (∀ w2,Below z.heap.size z w2→(w2.ownsRow (w.heap.size+4) 62 5 (.slice (some ⟨g,0,none⟩) n c) n (cellsN (renTo old new l (j+1)))∧Below w.heap.size w w2)∧hasN old (l.take (j+1))=hasN old (l.take j)):=fun w2 hb=>⟨⟨by rw [hone,hren,hsame];exact own_later hrow (onB hBz hb),onB hBwz hb⟩,by rw [hhas];simp⟩
     clear hren hsm hBwz hBz hzb hrow hcu x0 x1 x2 x3 x4 hone hhas hset hsame
     go_wp2_with fail
     refine hcall.mono ?_
     rintro e w2 ⟨rfl,hb2⟩
     have HG:=hid_of (HFin.out w2 hb2)
     clear hb2 hcall z0 z2 e0 e1 e2 e3 e4 hz
     go_wp2_with fail
     go_roundg (n-(j+1))
     case measure=>omega
     case rel=>exact ⟨j+1,by omega,rfl,by rw [HG.out.2],by go_num,hid_of HG.out.1⟩
    ·rw [hsm] at hcall hhas
     have hren:renN old new ⟨2,xn,xm,xl,xr⟩=⟨2,xn,new,xl,xr⟩:=by unfold renN;rw [if_pos ⟨rfl,hsm⟩]
     have hset2:=hset new
     simp only at hset2
     have HFin:Hid (∀ w2,Below z.heap.size z w2→(((w2.setCell ⟨g,j*5+2,none⟩ (.string new)).ownsRow (w.heap.size+4) 62 5 (.slice (some ⟨g,0,none⟩) n c) n (cellsN (renTo old new l (j+1)))∧Below w.heap.size w (w2.setCell ⟨g,j*5+2,none⟩ (.string new)))∧hasN old (l.take (j+1))=true)∧w2.cell? ⟨g,j*5+2,none⟩=some (.string xm)∧w2.frozen? ⟨g,j*5+2,none⟩=false):=fun w2 hb=>by
      have hr2:=own_later hrow (onB hBz hb)
      refine ⟨⟨⟨?_,(onB hBwz hb).setCell (by show _≤g;omega) _⟩,by rw [hhas];simp⟩,(hr2.cellAt (j*5+2) (by omega)).trans x2,hr2.frozenAt _⟩
      have h3:=(hr2.stored (j*5+2) (.string new)).1
      rw [hset2] at h3
      rw [hone,hren]
      exact h3
     clear hren hsm hBwz hBz hzb hrow hcu x0 x1 x2 x3 x4 hone hhas hset hsame hset2
     go_wp2_with fail
     refine hcall.mono ?_
     rintro e w2 ⟨rfl,hb2⟩
     obtain ⟨p1,p2,p3⟩:=HFin.out w2 hb2
     have HG:=hid_of p1
     clear hb2 hcall z0 z2 e0 e1 e2 e3 e4 hz p1
     go_wp2_with fail
     go_roundg (n-(j+1))
     case measure=>omega
     case rel=>exact ⟨j+1,by omega,rfl,by rw [HG.out.2],by go_num,hid_of HG.out.1⟩
   ·have hopb:(op != 2)=true:=by simpa using hop
    have hren:renN old new ⟨op,xn,xm,xl,xr⟩=⟨op,xn,xm,xl,xr⟩:=by unfold renN;rw [if_neg (fun e=>hop e.1)]
    have hd:decide (op=2)=false:=decide_eq_false hop
    rw [hd] at hhas
    have HFin:Hid ((z.ownsRow (w.heap.size+4) 62 5 (.slice (some ⟨g,0,none⟩) n c) n (cellsN (renTo old new l (j+1)))∧Below w.heap.size w z)∧hasN old (l.take (j+1))=hasN old (l.take j)):=⟨⟨by rw [hone,hren,hsame];exact own_later hrow hBz,hBwz⟩,by rw [hhas];simp⟩
    clear hren hop hd hBwz hBz hzb hrow hcu x0 x1 x2 x3 x4 hone hhas hset hsame
    go_wp2_with fail
    go_roundg (n-(j+1))
    case measure=>omega
    case rel=>exact ⟨j+1,by omega,rfl,by rw [HFin.out.2],by go_num,hid_of HFin.out.1⟩
  ·have hje:j=n:=by omega
   subst hje
   have htk:l.take j=l:=List.take_of_length_le (by rw [HL.out];exact Nat.le_refl _)
   rw [htk]
   cases hh:hasN old l
   ·have HG:Hid (refT old new t=t∧Below w.heap.size w wr):=⟨by rw [HR.out,if_neg (by rw [hh];decide)],HJ.out.2⟩
    clear hh htk
    go_wp2_with fail
    go_returns
    exact ⟨by rw [HG.out.1];rfl,HG.out.2⟩
   ·have HG:Hid (refT old new t=printT (renL old new l)):=by show _=_;rw [HR.out,if_pos hh]
    have hrow:=HJ.out.1
    rw [show renTo old new l j=renL old new l by rw [←HL.out];exact renTo_all old new l] at hrow
    have hlen:(renL old new l).length=j:=by rw [renL_len];exact HL.out
    have hpr:=fprint_any (some ⟨g,0,none⟩) c (renL old new l) wr (HE.out.later HJ.out.2) (nds_of (N:=w.heap.size+4) (by rw [hlen];exact hrow))
    rw [hlen,ren_form HN.out HF.out,errV_zero] at hpr
    have HB:=hid_of HJ.out.2
    clear hh htk hrow hlen
    go_wp2_with fail
    refine hpr.mono ?_
    rintro e w2 ⟨rfl,hb2⟩
    have hF:=hid_of (onB HB.out hb2)
    clear hb2
    go_wp2_with fail
    go_returns
    exact ⟨by rw [HG.out];rfl,hF.out⟩
end Go.Proofs.YtfldgghobddgkaaGreatDoor
