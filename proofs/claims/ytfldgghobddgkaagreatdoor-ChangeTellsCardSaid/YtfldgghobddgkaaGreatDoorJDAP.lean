/-
  What the draft's methods resign, move and add answer, and what they leave.
-/
import Derived.Test.YtfldgghobddgkaaGreatDoorJDAO
namespace Go.Proofs.YtfldgghobddgkaaGreatDoor
open Go.ChangeShapes Go.WideShapes Go.ChangeAt Go.RowKit Go.Lib
set_option maxRecDepth 100000
def addD (d:Dm) (m:Mem):Dm:=⟨d.name,d.solve,d.n+1,fun j=>if j=d.n then m else d.mem j⟩
def putM (M:Nat→Mem) (i:Nat) (m:Mem):Nat→Mem:=fun j=>if j=i then m else M j
def setMb (d:Dm) (i:Nat) (m:Mem):Dm:=⟨d.name,d.solve,d.n,putM d.mem i m⟩
theorem cellsMb_set {M:Nat→Mem} {n i f:Nat} {v:Value} {m:Mem} (hi:i<n) (hf:f<4) (hv:mcV (fun _=>m) f=v) (hm:∀ f',f'<4→f'≠f→mcV (fun _=>m) f'=mcV (fun _=>M i) f'):(cellsMb M n).set (i*4+f) v=cellsMb (putM M i m) n:=by
 rw [←rowF_mc,←rowF_mc]
 refine List.ext_getElem? fun j=>?_
 rw [List.getElem?_set]
 by_cases hj:j<n*4
 ·rw [rowF_get _ hj,rowF_get _ hj]
  have e1:∀ (M:Nat→Mem),mcV M j=mcV (fun _=>M (j / 4)) (j % 4):=fun M=>by
   unfold mcV
   rw [Nat.mod_mod]
  rw [e1 M,e1 (putM M i m)]
  by_cases e:j / 4=i
  ·rw [show putM M i m (j / 4)=m from if_pos e]
   by_cases e2:j % 4=f
   ·rw [if_pos (by omega),if_pos (by rw [rowF_len];omega),e2,hv]
   ·rw [if_neg (by omega),hm _ (by omega) e2,e]
  ·rw [show putM M i m (j / 4)=M (j / 4) from if_neg e,if_neg (by omega)]
 ·rw [if_neg (by omega),List.getElem?_eq_none (by rw [rowF_len];omega),List.getElem?_eq_none (by rw [rowF_len];omega)]
def Drawn (w:World) (B q g cd n k ge ce:Nat) (D:Nat→Dm) (l:List En):Prop := ∃ G C ys,DrA w B q g cd n k ge ce D G C ys∧lE ys=l
def MPost (w:World) (B q g cd n k ge ce:Nat) (D:Nat→Dm) (E:Int) (d':Dm) (l':List En) (e:Ending) (w':World):Prop:=e=.returned (errV E)∧(E=0→Drawn w' B q g cd n k ge ce (putD D k d') l')∧Lw B w w'
theorem MPost.bad {w w':World} {B q g cd n k ge ce:Nat} {D:Nat→Dm} {E:Int} {d':Dm} {l':List En} (hE:E≠0) (hB:B≤w.heap.size) (hb:Below w.heap.size w w'):MPost w B q g cd n k ge ce D E d' l' (.returned (errV E)) w' :=
 ⟨rfl,fun h=>absurd h hE,Lw.of hB hb⟩
def resE (s:Int):Int:=if s < -1∨1<s then 1 else 0
def resD (d:Dm) (i:Nat) (s:Int):Dm:=setMb d i ⟨(d.mem i).name,(d.mem i).parent,s,(d.mem i).formula⟩
set_option maxHeartbeats 1000000 in
theorem resign_any (B q g cd n k ge ce:Nat) (D:Nat→Dm) (G C:Nat→Nat) (ys:List EnL) (i:Nat) (s:Int) (w:World) (hB:B≤w.heap.size) (hi:i<(D k).n) (hn:(D k).n≤12) (h:DrA w B q g cd n k ge ce D G C ys) :
  Calls Tryz.prog 48 #[.pointer (some ⟨q,0,none⟩),.int .i64 i,.int .i64 s] w (MPost w B q g cd n k ge ce D (resE s) (resD (D k) i s) (lE ys)):=by
 by_cases h1:s < -1
 ·rw [show resE s=1 from if_pos (Or.inl h1)]
  have hF:=hid_of (MPost.bad (q:=q) (g:=g) (cd:=cd) (n:=n) (k:=k) (ge:=ge) (ce:=ce) (D:=D) (d':=resD (D k) i s) (l':=lE ys) (show (1:Int)≠0 by decide) hB (Below.refl _ w))
  clear h
  go_enter Tryz.func48,Tryz.ntmps48
  go_wp2_with fail
  go_ret
  exact hF.out
 by_cases h2:1<s
 ·rw [show resE s=1 from if_pos (Or.inr h2)]
  have hF:=hid_of (MPost.bad (q:=q) (g:=g) (cd:=cd) (n:=n) (k:=k) (ge:=ge) (ce:=ce) (D:=D) (d':=resD (D k) i s) (l':=lE ys) (show (1:Int)≠0 by decide) hB (Below.refl _ w))
  have h1' : -1≤s:=by omega
  clear h h1
  go_enter Tryz.func48,Tryz.ntmps48
  go_wp2_with fail
  go_ret
  exact hF.out
 rw [show resE s=0 from if_neg (by omega)]
 obtain ⟨c0,c1,c2,-⟩:=h.cells
 obtain ⟨-,-,d2,-⟩:=h.dim
 have hx:=(h.row.cellAt (i*4+2) (by omega)).trans (cellsMb_at (D k).mem (D k).n i hi).2.2.1
 have hfz:=h.row.frozenAt (i*4+2)
 have hF:Hid (MPost w B q g cd n k ge ce D 0 (resD (D k) i s) (lE ys) (.returned (errV 0)) (w.setCell ⟨G k,i*4+2,none⟩ (.int .i64 s))):=by
  obtain ⟨r1,r2⟩:=h.setM (x:=i*4+2) (v:=.int .i64 s) (M':=(resD (D k) i s).mem) (cellsMb_set hi (by omega) rfl fun f hf hne=>by
   have:f=0∨f=1∨f=3:=by omega
   rcases this with rfl | rfl | rfl <;> rfl)
  exact ⟨rfl,fun _=>⟨G,C,ys,r1,rfl⟩,r2⟩
 have hiI:(i:Int)<((D k).n:Int):=by omega
 have hnI:((D k).n:Int)≤12:=by omega
 have hcI:((D k).n:Int)≤(C k:Int):=by have:=(ow_blk h.row).2.2.1;omega
 have h1' : -1≤s:=by omega
 have h2':s≤1:=by omega
 generalize G k=gk at d2 hx hfz hF
 generalize C k=ck at d2 hcI
 generalize (D k).n=m at d2 hiI hnI hcI
 clear h h1 h2 hn hi
 go_enter Tryz.func48,Tryz.ntmps48
 go_wp2_with fail
 go_ret
 exact hF.out
def moveE (d:Dm) (l:List En) (k i:Nat) (tt:Int):Int:=if tt < -1∨(i:Int)≤tt then 1 else if tt=(d.mem i).parent∨wrAt l k tt=true∨(tt≠-1∧(d.mem tt.toNat).formula.size≠0) then 6 else 0
def movD (d:Dm) (i:Nat) (tt:Int):Dm:=setMb d i ⟨(d.mem i).name,tt,(d.mem i).sign,(d.mem i).formula⟩
set_option maxHeartbeats 2000000 in
theorem move_any (B q g cd n k ge ce:Nat) (D:Nat→Dm) (G C:Nat→Nat) (ys:List EnL) (i:Nat) (tt:Int) (w:World) (hB:B≤w.heap.size) (hi:i<(D k).n) (hn:(D k).n≤12) (h:DrA w B q g cd n k ge ce D G C ys) :
  Calls Tryz.prog 47 #[.pointer (some ⟨q,0,none⟩),.int .i64 i,.int .i64 tt] w (MPost w B q g cd n k ge ce D (moveE (D k) (lE ys) k i tt) (movD (D k) i tt) (lE ys)):=by
 have hBad:∀ (E:Int) w',E≠0→Below w.heap.size w w'→MPost w B q g cd n k ge ce D E (movD (D k) i tt) (lE ys) (.returned (errV E)) w':=fun E w' hE hb=>MPost.bad hE hB hb
 by_cases h1:tt < -1
 ·rw [show moveE (D k) (lE ys) k i tt=1 from if_pos (Or.inl h1)]
  have hF:=hid_of (hBad 1 w (by decide) (Below.refl _ w))
  clear h hBad
  go_enter Tryz.func47,Tryz.ntmps47
  go_wp2_with fail
  go_ret
  exact hF.out
 by_cases h2:(i:Int)≤tt
 ·rw [show moveE (D k) (lE ys) k i tt=1 from if_pos (Or.inr h2)]
  have hF:=hid_of (hBad 1 w (by decide) (Below.refl _ w))
  have h1' : -1≤tt:=by omega
  clear h h1 hBad
  go_enter Tryz.func47,Tryz.ntmps47
  go_wp2_with fail
  go_ret
  exact hF.out
 obtain ⟨c0,c1,c2,-⟩:=h.cells
 obtain ⟨-,-,d2,-⟩:=h.dim
 have hx:=(h.row.cellAt (i*4+1) (by omega)).trans (cellsMb_at (D k).mem (D k).n i hi).2.1
 have hfz:=h.row.frozenAt (i*4+1)
 have hiI:(i:Int)<((D k).n:Int):=by omega
 have hnI:((D k).n:Int)≤12:=by omega
 have hcI:((D k).n:Int)≤(C k:Int):=by have:=(ow_blk h.row).2.2.1;omega
 have h1' : -1≤tt:=by omega
 have h2':tt<(i:Int):=by omega
 have hwr:=written_any B q g cd n k ge ce D G C ys tt w h
 have HLt:=hid_of h.lt
 have hE0:moveE (D k) (lE ys) k i tt=if tt=((D k).mem i).parent∨wrAt (lE ys) k tt=true∨(tt≠-1∧((D k).mem tt.toNat).formula.size≠0) then 6 else 0:=if_neg (by omega)
 rw [hE0]
 by_cases h3:tt=((D k).mem i).parent
 ·rw [if_pos (Or.inl h3)]
  have hF:=hid_of (hBad 6 w (by decide) (Below.refl _ w))
  have h3b:(tt == ((D k).mem i).parent)=true:=by simpa using h3
  generalize ((D k).mem i).parent=pa at hx h3b
  generalize G k=gk at d2 hx hfz
  generalize C k=ck at d2 hcI
  generalize (D k).n=m at d2 hiI hnI hcI
  clear h h1 h2 hn hi hBad h3 hwr hE0
  go_enter Tryz.func47,Tryz.ntmps47
  go_wp2_with fail
  go_ret
  exact hF.out
 have h3b:(tt == ((D k).mem i).parent)=false:=by simpa using h3
 cases h4:wrAt (lE ys) k tt
 case true =>
  rw [if_pos (Or.inr (Or.inl rfl))]
  have hF:=hid_of (fun w'=>hBad 6 w' (by decide))
  rw [h4] at hwr
  generalize ((D k).mem i).parent=pa at hx h3b
  generalize G k=gk at d2 hx hfz
  generalize C k=ck at d2 hcI
  generalize (D k).n=m at d2 hiI hnI hcI
  clear h h1 h2 hn hi hBad h3 h4 hE0
  go_enter Tryz.func47,Tryz.ntmps47
  go_wp2_with fail
  refine hwr.mono ?_
  rintro e w1 ⟨rfl,hb1⟩
  have hG:=hid_of (hF.out w1 hb1)
  go_wp2_with fail
  go_ret
  exact hG.out
 rw [h4] at hwr
 have hSet:Hid (∀ w1,Below w.heap.size w w1→MPost w B q g cd n k ge ce D 0 (movD (D k) i tt) (lE ys) (.returned (errV 0)) (w1.setCell ⟨G k,i*4+1,none⟩ (.int .i64 tt))∧(∃ u,w1.cell? ⟨G k,i*4+1,none⟩=some u)∧w1.frozen? ⟨G k,i*4+1,none⟩=false):=fun w1 hb1=>by
  have h':=h.later hb1
  obtain ⟨r1,r2⟩:=h'.setM (x:=i*4+1) (v:=.int .i64 tt) (M':=(movD (D k) i tt).mem) (cellsMb_set hi (by omega) rfl fun f hf hne=>by
   have:f=0∨f=2∨f=3:=by omega
   rcases this with rfl | rfl | rfl <;> rfl)
  exact ⟨⟨rfl,fun _=>⟨G,C,ys,r1,rfl⟩,(Lw.of hB hb1).trans r2⟩,⟨_,(h'.row.cellAt (i*4+1) (by omega)).trans (cellsMb_at (D k).mem (D k).n i hi).2.1⟩,h'.row.frozenAt _⟩
 by_cases h5:tt = -1
 ·subst h5
  rw [if_neg (by rintro (e | e | e);exact h3 e;cases e;exact e.1 rfl)]
  generalize ((D k).mem i).parent=pa at hx h3b
  generalize G k=gk at d2 hx hfz hSet
  generalize C k=ck at d2 hcI
  generalize (D k).n=m at d2 hiI hnI hcI
  clear h h1 h2 hn hi hBad h3 h4 hE0
  go_enter Tryz.func47,Tryz.ntmps47
  go_wp2_with fail
  refine hwr.mono ?_
  rintro e w1 ⟨rfl,hb1⟩
  obtain ⟨p1,⟨u,p2⟩,p3⟩:=hSet.out w1 hb1
  have hG:=hid_of p1
  clear p1
  go_wp2_with fail
  go_ret
  exact hG.out
 obtain ⟨p,rfl⟩:∃ p:Nat,tt=p:=⟨tt.toNat,by omega⟩
 have hpn:p<(D k).n:=by omega
 rw [Int.toNat_natCast]
 have HFo:Hid (∀ w1,Below w.heap.size w w1→w1.cell? ⟨G k,p*4+3,none⟩=some (.string ((D k).mem p).formula)):=fun w1 hb1=>((h.later hb1).row.cellAt (p*4+3) (by omega)).trans (cellsMb_at (D k).mem (D k).n p hpn).2.2.2
 have hne1:((p:Int) != -1)=true:=by simp
 have hpI:(p:Int)<((D k).n:Int):=by omega
 by_cases h6:((D k).mem p).formula.size=0
 ·rw [if_neg (by rintro (e | e | e);exact h3 e;cases e;exact e.2 h6)]
  have hem:((D k).mem p).formula.toList.isEmpty=true:=by rw [empty_same];simpa using h6
  generalize ((D k).mem p).formula=fo at HFo hem
  generalize ((D k).mem i).parent=pa at hx h3b
  generalize G k=gk at d2 hx hfz hSet HFo
  generalize C k=ck at d2 hcI
  generalize (D k).n=m at d2 hiI hnI hcI hpI
  clear h h1 h2 hn hi hBad h3 h4 hE0 h5 hpn h6
  go_enter Tryz.func47,Tryz.ntmps47
  go_wp2_with fail
  refine hwr.mono ?_
  rintro e w1 ⟨rfl,hb1⟩
  obtain ⟨p1,⟨u,p2⟩,p3⟩:=hSet.out w1 hb1
  have p4:=HFo.out w1 hb1
  have hG:=hid_of p1
  clear p1
  go_wp2_with fail
  go_ret
  exact hG.out
 ·rw [if_pos (Or.inr (Or.inr ⟨by omega,h6⟩))]
  have hF:=hid_of (fun w'=>hBad 6 w' (by decide))
  have hem:((D k).mem p).formula.toList.isEmpty=false:=by rw [empty_same];simpa using h6
  generalize ((D k).mem p).formula=fo at HFo hem
  generalize ((D k).mem i).parent=pa at hx h3b
  generalize G k=gk at d2 hx hfz hSet HFo
  generalize C k=ck at d2 hcI
  generalize (D k).n=m at d2 hiI hnI hcI hpI
  clear h h1 h2 hn hi hBad h3 h4 hE0 h5 hpn h6
  go_enter Tryz.func47,Tryz.ntmps47
  go_wp2_with fail
  refine hwr.mono ?_
  rintro e w1 ⟨rfl,hb1⟩
  have p4:=HFo.out w1 hb1
  have hG:=hid_of (hF.out w1 hb1)
  go_wp2_with fail
  go_ret
  exact hG.out
theorem putD_twice (D:Nat→Dm) (k:Nat) (d d':Dm):putD (putD D k d) k d'=putD D k d':=by
 funext i
 unfold putD
 by_cases e:i=k
 ·rw [if_pos e,if_pos e]
 ·rw [if_neg e,if_neg e,if_neg e]
theorem cellsMb_add (d:Dm) (m:Mem):cellsMb d.mem d.n ++ [.string m.name,.int .i64 m.parent,.int .i64 m.sign,.string m.formula]=cellsMb (addD d m).mem (d.n+1):=by
 rw [cellsMb]
 have e:(addD d m).mem d.n=m:=if_pos rfl
 rw [e]
 congr 1
 exact cellsMb_cgr _ fun i hi=>(if_neg (by omega):(if i=d.n then m else d.mem i)=d.mem i).symm
theorem own_mb {w:World} {B:Nat} {v:Value} {n:Nat} {xs:List Value} {s e:Nat} (h:w.ownsRow B e s v n xs) (hn:0<n):∃ g c,v=.slice (some ⟨g,0,none⟩) n c:=by
 rcases h.2 with ⟨rfl,h0⟩ | ⟨g,cap,cur,rfl,_⟩
 ·omega
 ·exact ⟨g,cap,rfl⟩
theorem list_set_same {xs:List Value} {j:Nat} {u:Value} (hu:xs[j]?=some u):xs.set j u=xs:=by
 refine List.ext_getElem? fun k=>?_
 rw [List.getElem?_set]
 split
 ·rename_i e;subst e;rw [hu];simp [(List.getElem?_eq_some_iff.1 hu).1]
 ·rfl
theorem nm_small {d d':Dm} {m:Mem} {dn:Nat} (h:addD d m=d') (hn:d.n=dn) (hE:(dimErr d').2=0):m.name.size≤281474976710656:=by
 have hm:=(dimErr_right hE).2.2.2 dn (by rw [←h];show dn<d.n+1;omega)
 have h1:d'.mem dn=m:=by rw [←h,←hn];exact if_pos rfl
 unfold memErr at hm
 split at hm
 ·cases hm
 ·rename_i h0
  rw [h1] at h0
  unfold nameErr at h0
  split at h0
  ·exact absurd h0 (by decide)
  ·omega
def AdR (W wx:World) (B q g cd n k ge ce:Nat) (D:Nat→Dm) (ys:List EnL) (m:Mem) (bx:Nat):Prop:=(∃ G' C',DrA wx B q g cd n k ge ce (putD D k (addD (D k) m)) G' C' ys∧bx≠G' k)∧wx.heap[bx]?=some (.cells #[.string m.name,.int .i64 m.parent,.int .i64 m.sign,.string m.formula] 43 (0,0))∧Lw B W wx∧W.heap.size≤wx.heap.size
def addE (d:Dm) (l:List En) (k:Nat) (m:Mem):Int:=if (dimErr (addD d m)).2≠0 then (dimErr (addD d m)).2 else if wrAt l k m.parent=true then 6 else 0
theorem keepAd {W w':World} {q g gm bx k:Nat} {u1 u2 u3:Value} (h:bx<W.heap.size∧q<W.heap.size∧g<W.heap.size∧bx≠gm∧q≠gm∧g≠gm∧W.cell? ⟨bx,0,none⟩=some u1∧W.cell? ⟨q,0,none⟩=some u2∧W.cell? ⟨g,k,none⟩=some u3) (hG:W.grownBy w' (some gm)):W.grownBy w' (some gm)∧w'.cell? ⟨bx,0,none⟩=some u1∧w'.cell? ⟨q,0,none⟩=some u2∧w'.cell? ⟨g,k,none⟩=some u3 :=
 ⟨hG,hG.cell h.2.2.2.2.2.2.1 (by simpa using h.2.2.2.1),hG.cell h.2.2.2.2.2.2.2.1 (by simpa using h.2.2.2.2.1),hG.cell h.2.2.2.2.2.2.2.2 (by simpa using h.2.2.2.2.2.1)⟩
set_option maxHeartbeats 8000000 in
theorem cadd_any (B q g cd n k ge ce:Nat) (D:Nat→Dm) (G C:Nat→Nat) (ys:List EnL) (m:Mem) (w:World) (hB:B≤w.heap.size) (hn:(D k).n≤12) (h:DrA w B q g cd n k ge ce D G C ys) :
  Calls Tryz.prog 44 #[.pointer (some ⟨q,0,none⟩),memV m] w (MPost w B q g cd n k ge ce D (addE (D k) (lE ys) k m) (addD (D k) m) (lE ys)):=by
 obtain ⟨i0,hi0,hz0,hz1,hz2⟩:=info_parts Tryz.infoMemH
 obtain ⟨W,hW⟩:∃ W,w.alloc (.cells #[.string m.name,.int .i64 m.parent,.int .i64 m.sign,.string m.formula] 43)=W:=⟨_,rfl⟩
 have hBW:Below w.heap.size w W:=by rw [←hW];go_grown
 have hWs:W.heap.size=w.heap.size+1:=by rw [←hW];simp
 have kb:W.heap[w.heap.size]?=some (.cells #[.string m.name,.int .i64 m.parent,.int .i64 m.sign,.string m.formula] 43 (0,0)):=by rw [←hW];exact heap_alloc_new ..
 have hd:=h.later hBW
 obtain ⟨c0,c1,c2,-⟩:=hd.cells
 obtain ⟨-,-,d2,dfz⟩:=hd.dim
 have x0:W.cell? ⟨w.heap.size,0,none⟩=some (.string m.name):=(Lib.cell_of_heap kb 0).trans rfl
 have x1:W.cell? ⟨w.heap.size,1,none⟩=some (.int .i64 m.parent):=(Lib.cell_of_heap kb 1).trans rfl
 have x2:W.cell? ⟨w.heap.size,2,none⟩=some (.int .i64 m.sign):=(Lib.cell_of_heap kb 2).trans rfl
 have x3:W.cell? ⟨w.heap.size,3,none⟩=some (.string m.formula):=(Lib.cell_of_heap kb 3).trans rfl
 have HD:=hid_of hd
 have HBW:=hid_of hBW
 have HO:=hid_of hd.row
 have HKB:=hid_of kb
 have hnI:((D k).n:Int)≤12:=by omega
 have HNN:Hid ((D k).n≤12):=hn
 have HCC:Hid (∀ w',Below W.heap.size W w'→w'.cell? ⟨g,k*3+2,none⟩=some (.slice (some ⟨G k,0,none⟩) (D k).n (C k))∧w'.frozen? ⟨g,k*3+2,none⟩=false):=fun w' hb=>⟨(hd.later hb).dim.2.2.1,(hd.later hb).dim.2.2.2 _⟩
 have HCQ:Hid (∀ w',Below W.heap.size W w'→w'.cell? ⟨q,0,none⟩=some (.pointer (some ⟨g,k*3,none⟩))):=fun w' hb=>(hd.later hb).cells.1
 have HNQ:Hid (some q≠(Value.slice (some ⟨G k,0,none⟩) (D k).n (C k)).ownBlock):=fun e=>by
  obtain ⟨-,-,-,-,cm,hcm⟩:=ow_blk hd.row
  exact blk_ty hd.box hcm (by decide) (Option.some.inj e)
 have HNE:Hid (some g≠(Value.slice (some ⟨G k,0,none⟩) (D k).n (C k)).ownBlock):=fun e=>by
  obtain ⟨-,-,-,-,cg,hcg⟩:=ow_blk hd.own.dims
  obtain ⟨-,-,-,-,cm,hcm⟩:=ow_blk hd.row
  exact blk_ty hcg hcm (by decide) (Option.some.inj e)
 have hql:q<W.heap.size:=hd.lt
 have hBl:B≤W.heap.size:=by omega
 have hgl:g<W.heap.size:=(ow_blk hd.own.dims).2.1
 have HPut:Hid (∀ gg cg w6,W.grownBy w6 (some (G k))→w6.ownsRow B 43 4 (.slice (some ⟨gg,0,none⟩) ((D k).n+1) cg) ((D k).n+1) (cellsMb (D k).mem (D k).n ++ [.string m.name,.int .i64 m.parent,.int .i64 m.sign,.string m.formula])→(gg=G k∨W.heap.size≤gg)→Hid (AdR W (w6.setCell ⟨g,k*3+2,none⟩ (.slice (some ⟨gg,0,none⟩) ((D k).n+1) cg)) B q g cd n k ge ce D ys m w.heap.size)):=fun gg cg w6 hg hr hgg=>by
  rw [cellsMb_add] at hr
  obtain ⟨r1,r2⟩:=hd.newM hBl hg hr hgg
  obtain ⟨-,-,-,-,cg',hcg⟩:=ow_blk hd.own.dims
  obtain ⟨-,-,-,-,cm,hcm⟩:=ow_blk hd.row
  have hbx:w.heap.size≠G k:=by
   have:=(ow_blk h.row).2.1
   omega
  have hbg:w.heap.size≠g:=by
   have:=(ow_blk h.own.dims).2.1
   omega
  refine ⟨⟨_,_,r1,?_⟩,?_,r2,by have:=hg.size;simpa using this⟩
  ·show w.heap.size≠if k=k then gg else G k
   rw [if_pos rfl]
   rcases hgg with e | e <;> omega
  exact (setCell_off _ _ _ _ _ hbg).trans ((hg.block _ (by omega) fun e=>hbx (Option.some.inj e)).trans kb)
 obtain ⟨XS,hXS⟩:∃ XS,cellsMb (D k).mem (D k).n=XS:=⟨_,rfl⟩
 have HXS:=hid_of hXS
 rw [hXS] at HO HPut
 have hns:(D k).n≤12:=hn
 obtain ⟨gk,hgk⟩:∃ gk,G k=gk:=⟨_,rfl⟩
 obtain ⟨ck,hck⟩:∃ ck,C k=ck:=⟨_,rfl⟩
 obtain ⟨dn,hdn⟩:∃ dn,(D k).n=dn:=⟨_,rfl⟩
 rw [hgk,hck,hdn] at d2 HO HCC HNE HNQ
 rw [hgk,hdn] at HPut
 rw [hdn] at hnI hns
 have HGK:=hid_of hgk
 have HCK:=hid_of hck
 have HDN:=hid_of hdn
 have HWs:=hid_of hWs
 clear h hd hBW kb hXS hgk hck hdn hn hWs
 unfold memV
 go_enter Tryz.func44,Tryz.ntmps44
 go_upto_region 1 with fail
 go_cut [] from 8 (fun wx=>Hid (AdR W wx B q g cd n k ge ce D ys m w.heap.size))
 case first =>
  go_region_law (first
   | (refine step_append_lies _ (by rfl) _ _ _ (by rfl) B 43 i0 _ 4 48 Tryz.underlying39 hi0 hz0 hz1 hz2 rfl (by omega) (.slice (some ⟨gk,0,none⟩) dn ck) dn XS (by rfl) (own_stays HO.out (by go_grown)) ⟨W.heap.size,0,none⟩ 1 1 [.string m.name,.int .i64 m.parent,.int .i64 m.sign,.string m.formula] (by rfl) (by rfl) (World.news_of_block (cs := #[.string m.name,.int .i64 m.parent,.int .i64 m.sign,.string m.formula]) (t:=43) (fr:=(0,0)) (heap_alloc_new _ _)) (by simp [Value.oneCell']) (by omega) (by unfold maxLen;omega) (by omega) (by simp;omega) (W.heap.size+1) (by simp) ?_;intro gg cg w6 hown6 hgrow hat hlt6;have y1:=(hgrow.cell_far ⟨g,k*3+2,none⟩ (by simp;omega) HNE.out).trans (HCC.out _ (by go_grown)).1;have y2:=(hgrow.frozen_far ⟨g,k*3+2,none⟩ (by simp;omega) HNE.out).trans (HCC.out _ (by go_grown)).2;have y3:=(hgrow.cell_far ⟨q,0,none⟩ (by simp;omega) HNQ.out).trans (HCQ.out _ (by go_grown))))
  all_goals (have HG6:=HPut.out gg cg w6 (grown_trans (grown_below (by go_grown)) hgrow) hown6 (hat.imp (fun e=>(Option.some.inj e).symm) (fun e=>by omega)))
  all_goals clear hown6 hgrow hat hlt6 y1 y2 y3
  all_goals (go_wp2_with fail;go_meet;exact HG6)
 case rest =>
  obtain ⟨wx,rfl⟩:∃ wx:World,wx=wc:=⟨_,rfl⟩
  obtain ⟨⟨G',C',hdx,hbG⟩,hbx,hlow,hsz⟩:=hcut.out
  have e1:putD D k (addD (D k) m) k=addD (D k) m:=putD_at ..
  obtain ⟨c0,c1,c2,-⟩:=hdx.cells
  obtain ⟨d0,d1,d2,-⟩:=hdx.dim
  rw [e1] at d0 d1 d2
  have hMV:MemsV wx (some ⟨G' k,0,none⟩) (C' k) (addD (D k) m).n (addD (D k) m).mem:=by
   have hr:=hdx.row
   rw [e1] at hr
   obtain ⟨A1,c1',e2,h2⟩:=memT_own hr
   cases e2
   exact h2.toV
  have hck:=dcheck_any (addD (D k) m) (some ⟨G' k,0,none⟩) (C' k) wx hMV
  unfold dimV at hck
  have HX:=hid_of hdx
  have hbs:w.heap.size<wx.heap.size:=(Array.getElem?_eq_some_iff.1 hbx).1
  have HBox:Hid (∀ w',Below wx.heap.size wx w'→w'.cell? ⟨w.heap.size,0,none⟩=some (.string m.name)∧w'.cell? ⟨w.heap.size,1,none⟩=some (.int .i64 m.parent)):=fun w' hb=>by
   have h1:=(hb.block _ hbs).trans hbx
   exact ⟨(Lib.cell_of_heap h1 0).trans rfl,(Lib.cell_of_heap h1 1).trans rfl⟩
  have HLow:=hid_of hlow
  have hn1:(addD (D k) m).n=dn+1:=by show (D k).n+1=_;rw [HDN.out]
  have HCE:Hid ((addD (D k) m).name=(D k).name):=rfl
  obtain ⟨d',hd'⟩:∃ d',addD (D k) m=d':=⟨_,rfl⟩
  have HD':=hid_of hd'
  rw [hd'] at hck d0 d1 d2 hn1 e1
  have HBad:Hid (∀ E w',addE (D k) (lE ys) k m=E→E≠0→Below wx.heap.size wx w'→MPost w B q g cd n k ge ce D (addE (D k) (lE ys) k m) (addD (D k) m) (lE ys) (.returned (errV E)) w'):=fun E w' h1 hE hb=>by
   rw [h1]
   exact ⟨rfl,fun h=>absurd h hE,((Lw.of hB HBW.out).trans HLow.out).trans (Lw.of (by omega) hb)⟩
  have hE0:addE (D k) (lE ys) k m=if (dimErr d').2≠0 then (dimErr d').2 else if wrAt (lE ys) k m.parent=true then 6 else 0:=by unfold addE;rw [hd']
  obtain ⟨s1,s2,n',mm⟩:=d'
  simp only at d0 d1 d2 hn1 hck
  subst hn1
  generalize (dimErr ⟨s1,s2,dn+1,mm⟩).1=z at hck
  by_cases hE:(dimErr ⟨s1,s2,dn+1,mm⟩).2=0
  ·rw [if_neg (by simpa using hE)] at hE0
   rw [hE,errV_zero] at hck
   have HE0:=hid_of hE0
   have hwr:∀ w',Below wx.heap.size wx w'→_:=fun w' hb=>written_any B q g cd n k ge ce _ G' C' ys m.parent w' (HX.out.later hb)
   have HWr:=hid_of hwr
   have HNs:Hid (m.name.size≤281474976710656):=nm_small HD'.out HDN.out hE
   have hwl:IntKind.i64.wrap ((dn:Int)+1-1)=(dn:Int):=by rw [show (dn:Int)+1-1=dn by omega];exact IntWalk.i64_in _ (by omega)
   clear hdx hcut hbx hlow hMV hwr hE0 hE hd'
   go_wp2_with fail
   refine hck.mono ?_
   rintro e w2 ⟨rfl,hb2⟩
   have HB2:=hid_of hb2
   obtain ⟨b0,b1⟩:=HBox.out w2 hb2
   have hwr:=HWr.out w2 hb2
   clear hb2 hck c0 c1 c2 d0 d1 d2
   cases hw4:wrAt (lE ys) k m.parent
   case true =>
    rw [hw4] at hwr
    have HE6:Hid (addE (D k) (lE ys) k m=6):=by show _=_;rw [HE0.out,if_pos hw4]
    clear hw4
    go_wp2_with fail
    refine hwr.mono ?_
    rintro e w3 ⟨rfl,hb3⟩
    have HF:=hid_of (HBad.out 6 w3 HE6.out (by decide) (onB HB2.out hb3))
    clear hb3
    go_wp2_with fail
    go_ret
    exact HF.out
   rw [hw4] at hwr
   have HE6:Hid (addE (D k) (lE ys) k m=0):=by show _=_;rw [HE0.out,if_neg (by rw [hw4];decide)]
   clear hw4
   go_wp2_with fail
   refine hwr.mono ?_
   rintro e w3 ⟨rfl,hb3⟩
   have hB3:=onB HB2.out hb3
   have h3:=HX.out.later hB3
   rw [HD'.out] at h3
   have HB3:=hid_of hB3
   obtain ⟨b0',b1'⟩:=HBox.out w3 hB3
   have hql3:q<w3.heap.size:=h3.lt
   have hgl3:g<w3.heap.size:=(ow_blk h3.own.dims).2.1
   obtain ⟨-,-,-,-,cdm,hcdm⟩:=ow_blk h3.own.dims
   obtain ⟨-,hgml,hgmc,-,cmm,hcmm⟩:=ow_blk h3.row
   have hbs3:w.heap.size<w3.heap.size:=Nat.lt_of_lt_of_le hbs hB3.size
   have k0:=h3.cells.1
   have k2:=h3.dim.2.2.1
   have hrow3:=h3.row
   rw [e1] at k2 hgmc hrow3
   simp only at k2 hgmc hrow3
   have HSt:Hid (w.heap.size<w3.heap.size∧q<w3.heap.size∧g<w3.heap.size∧w.heap.size≠G' k∧q≠G' k∧g≠G' k∧w3.cell? ⟨w.heap.size,0,none⟩=some (.string m.name)∧w3.cell? ⟨q,0,none⟩=some (.pointer (some ⟨g,k*3,none⟩))∧w3.cell? ⟨g,k*3+2,none⟩=some (.slice (some ⟨G' k,0,none⟩) (dn+1) (C' k))):=⟨hbs3,hql3,hgl3,hbG,blk_ty h3.box hcmm (by decide),blk_ty hcdm hcmm (by decide),b0',k0,k2⟩
   have hx0:=(cellsMb_at mm (dn+1) dn (by omega)).1
   have hmn:(mm dn).name=m.name:=by
    have h1:(addD (D k) m).mem (D k).n=m:=if_pos rfl
    rw [HD'.out,HDN.out] at h1
    exact congrArg Mem.name h1
   rw [hmn] at hx0
   have HDs:Hid (∀ w4,Below w3.heap.size w3 w4→w4.cell? ⟨G' k,dn*4,none⟩=some (.string m.name)∧w4.frozen? ⟨G' k,dn*4,none⟩=false):=fun w4 hb4=>by
    have h4:=own_later hrow3 hb4
    exact ⟨(h4.cellAt (dn*4) (by omega)).trans hx0,h4.frozenAt _⟩
   have HEnd:Hid (∀ w4,Below w3.heap.size w3 w4→MPost w B q g cd n k ge ce D (addE (D k) (lE ys) k m) (addD (D k) m) (lE ys) (.returned (errV 0)) (w4.setCell ⟨G' k,dn*4,none⟩ (.string m.name))):=fun w4 hb4=>by
    have h4:=h3.later hb4
    obtain ⟨r1,r2⟩:=h4.setM (x:=dn*4) (v:=.string m.name) (M':=mm) (by
     rw [e1]
     exact list_set_same hx0)
    rw [HE6.out]
    refine ⟨rfl,fun _=>⟨G',C',ys,?_,rfl⟩,(((Lw.of hB HBW.out).trans HLow.out).trans (Lw.of (by omega) (onB HB3.out hb4))).trans r2⟩
    rw [HD'.out]
    rw [putD_twice,e1] at r1
    exact r1
   have HSc:Hid (∀ w',Calls Tryz.prog 41 #[.string m.name] w' fun e w''=>e=.returned (.string m.name)∧Below w'.heap.size w' w''):=fun w'=>sclone_any _ w' HNs.out
   have hgcI:(dn:Int)+1≤(C' k:Int):=by omega
   have hdl:(dn:Int)<(dn:Int)+1:=by omega
   have hwB:=hid_of hbs3
   clear hwr hB3 h3 hb3 hrow3 hx0 hcmm hcdm hmn HCC HNE HNQ HPut HO HX HWr HBad HCQ
   generalize G' k=gm at k2 HSt HDs HEnd hbG hgml
   generalize C' k=cm' at k2 HSt hgcI hgmc
   generalize w.heap.size=bx at b0' b1' HSt hbs3 hbG
   go_wp2_with fail
   go_region_held3 (fun w'=>w3.grownBy w' (some gm)∧w'.cell? ⟨bx,0,none⟩=some (.string m.name)∧w'.cell? ⟨q,0,none⟩=some (.pointer (some ⟨g,k*3,none⟩))∧w'.cell? ⟨g,k*3+2,none⟩=some (.slice (some ⟨gm,0,none⟩) (dn+1) cm'))
    ((refine keepAd HSt.out ?_;(repeat (first | exact grown_refl _ _ | assumption | refine grown_drew ?_ | refine grown_set ?_ _ _));done))
    (first | (go_at_call 41;refine (HSc.out _).mono ?_;rintro e w4 ⟨rfl,hb4⟩;have hN4:=onB (W0:=w3) (by go_grown) hb4;have hG4:w3.grownBy w4 (some gm):=grown_below hN4;obtain ⟨z0,f0⟩:=HDs.out w4 hN4;have HB4:=hid_of hN4;have hs4:=hN4.size;clear hb4 hN4))
   all_goals (have HF:=hid_of (HEnd.out w4 HB4.out))
   all_goals clear z0 f0 hG4
   all_goals go_wp2_with fail
   all_goals go_ret
   all_goals exact HF.out
  ·rw [if_pos (by simpa using hE)] at hE0
   have hV:=errV_some hE
   have HF:=hid_of (fun w'=>HBad.out _ w' hE0 hE)
   generalize (dimErr ⟨s1,s2,dn+1,mm⟩).2=E at hck HF hV
   clear hdx hcut hbx hlow hMV hE0 hE hd'
   rw [hV] at hck
   go_wp2_with fail
   refine hck.mono ?_
   rintro e w2 ⟨rfl,hb2⟩
   have HG:=hid_of (HF.out w2 hb2)
   clear hb2
   go_wp2_with fail
   go_ret
   have hG:=HG.out
   rw [hV] at hG
   exact hG
end Go.Proofs.YtfldgghobddgkaaGreatDoor
namespace Go.Proofs.YtfldgghobddgkaaGreatDoor
open Go.ChangeShapes Go.WideShapes Go.ChangeAt Go.RowKit
set_option maxRecDepth 20000
def RInv (N:List (List Int)) (i:Nat) (L:List Int) (k:Nat):Prop:=L.Nodup∧(∀ x∈L,Rch N i x)∧(∀ x∈N.getD i [],x∈L)∧∀ j,j<k→∀ y∈rowN N (L.getD j 0),y∈L
theorem rinv_start {N:List (List Int)} {i:Nat} (h:(N.getD i []).Nodup):RInv N i (N.getD i []) 0 :=
 ⟨h,fun x hx=>.one (by unfold rowN;simpa using hx),fun _ h=>h,fun j hj=>absurd hj (Nat.not_lt_zero _)⟩
theorem rinv_in {N:List (List Int)} {i:Nat} {L:List Int} {k:Nat} (h:RInv N i L k) (hN:Inn N) (hi:i<N.length):∀ x∈L,0≤x∧x<(N.length:Int):=fun x hx=>(h.2.1 x hx).inn hN (by omega) (by omega)
theorem rinv_len {N:List (List Int)} {i:Nat} {L:List Int} {k:Nat} (h:RInv N i L k) (hN:Inn N) (hi:i<N.length):L.length≤N.length:=few _ _ h.1 (rinv_in h hN hi)
theorem rinv_end {N:List (List Int)} {i:Nat} {L:List Int} (h:RInv N i L L.length):∀ x,x∈L↔Rch N i x:=fun x=>by
 refine ⟨h.2.1 x,fun hr=>hr.closed (S:=fun y=>y∈L) (fun y hy=>h.2.2.1 y (by unfold rowN at hy;simpa using hy)) fun y hy z hz=>?_⟩
 obtain ⟨j,hj,rfl⟩:=List.getElem_of_mem hy
 refine h.2.2.2 j hj z ?_
 rw [List.getD_eq_getElem?_getD,List.getElem?_eq_getElem hj]
 exact hz
theorem getD_app {L T:List Int} {j:Nat} (h:j<L.length):(L ++ T).getD j 0=L.getD j 0:=by
 rw [List.getD_eq_getElem?_getD,List.getD_eq_getElem?_getD,List.getElem?_append_left h]
theorem rinv_put {N:List (List Int)} {i:Nat} {L:List Int} {k:Nat} {x:Int} (h:RInv N i L k) (hk:k≤L.length) (hx:x∉L) (hr:Rch N i x):RInv N i (L ++ [x]) k:=by
 refine ⟨?_,fun y hy=>?_,fun y hy=>List.mem_append_left _ (h.2.2.1 y hy),fun j hj y hy=>?_⟩
 ·rw [List.nodup_append]
  refine ⟨h.1,by simp,fun a ha b hb e=>?_⟩
  rw [List.mem_singleton.1 hb] at e
  exact hx (e ▸ ha)
 ·rcases List.mem_append.1 hy with hy | hy
  ·exact h.2.1 y hy
  ·rw [List.mem_singleton.1 hy];exact hr
 ·rw [getD_app (by omega)] at hy
  exact List.mem_append_left _ (h.2.2.2 j hj y hy)
theorem rinv_next {N:List (List Int)} {i:Nat} {L:List Int} {k:Nat} (h:RInv N i L k) (hy:∀ y∈rowN N (L.getD k 0),y∈L):RInv N i L (k+1) :=
 ⟨h.1,h.2.1,h.2.2.1,fun j hj y hyj=>by
  by_cases e:j=k
  ·rw [e] at hyj;exact hy y hyj
  ·exact h.2.2.2 j (by omega) y hyj⟩
theorem mem_at {L:List Int} {j:Nat} (h:j<L.length):L.getD j 0∈L:=by
 rw [List.getD_eq_getElem?_getD,List.getElem?_eq_getElem h]
 exact List.getElem_mem h
set_option maxHeartbeats 4000000 in
theorem rureach_any (A:Option Addr) (cap:Nat) (xs:List RL) (i:Nat) (w:World) (hn:xs.length≤12) (hi:i<xs.length) (hN:Inn (lR xs)) (hnd:∀ x∈xs,x.p.Nodup∧x.p.length≤12) (hR:RowsV w A cap xs) :
  Calls Tryz.prog 87 #[.slice A xs.length cap,.int .i64 i] w fun e w'=>(∃ A' c' L,e=.returned (.slice A' L.length c')∧IntsAt w' A' c' L∧L.length≤12∧∀ x,x∈L↔Rch (lR xs) i x)∧Below w.heap.size w w':=by
 obtain ⟨i0,hi0,hz0,hz1,hz2⟩:=info_parts Tryz.infoInt
 have HR:Hid (RowsV w A cap xs):=hR
 have HNd:Hid (∀ x∈xs,x.p.Nodup∧x.p.length≤12):=hnd
 have HIn:Hid (Inn (lR xs)):=hN
 have HLen:Hid ((lR xs).length=xs.length):=lR_len xs
 obtain ⟨hcap,h0 | ⟨b,rfl,hbw,hcell⟩,hrows⟩:=hR
 ·rw [h0] at hi;simp at hi
 have hci:=hcell i hi
 have hri:=hrows _ (rl_mem hi)
 have hni:=hnd _ (rl_mem hi)
 have HC:Hid (∀ k,k<xs.length→w.cell? ⟨b,k,none⟩=some (.slice (xs.getD k noR).A (xs.getD k noR).p.length (xs.getD k noR).c)):=hcell
 have HRw:Hid (∀ x∈xs,IntT w x.A x.c x.p):=hrows
 have HSt:Hid (RInv (lR xs) i (xs.getD i noR).p 0):=by
  have h:=rinv_start (N:=lR xs) (i:=i) (by rw [lR_at];exact hni.1)
  rw [lR_at] at h
  exact h
 have hcl:=iclone_any (xs.getD i noR).A (xs.getD i noR).c (xs.getD i noR).p w hni.2 hri
 obtain ⟨n,hnn⟩:∃ n,xs.length=n:=⟨_,rfl⟩
 have HX:Hid (xs.length=n):=hnn
 rw [hnn] at hn hi hcap ⊢
 have hii:(i:Int)<(n:Int):=by omega
 have hnI:(n:Int)≤12:=by omega
 obtain ⟨pi,hpi⟩:∃ pi,(xs.getD i noR).p=pi:=⟨_,rfl⟩
 rw [hpi] at hci hcl HSt
 generalize (xs.getD i noR).A=Ai at hci hcl
 generalize (xs.getD i noR).c=ci at hci hcl
 clear hcell hrows hnd hN hri hni hpi hnn
 go_enter Tryz.func87,Tryz.ntmps87
 go_wp2_with fail
 refine hcl.mono ?_
 rintro e w1 ⟨⟨v1,rfl,hO1⟩,hb1⟩
 have HO1:Hid (w1.ownsRow w.heap.size 3 1 v1 pi.length (mapI pi)):=hO1
 have HB1:Hid (Below w.heap.size w w1):=hb1
 clear hO1 hb1 hcl hci
 go_wp2_with fail
 go_loopg [5,6] n (fun g s5 s6 wr => ∃ (k:Nat) (L:List Int),k≤L.length∧g=n-k∧s6=.int .i64 k∧Hid (RInv (lR xs) i L k)∧wr.ownsRow w.heap.size 3 1 s5 L.length (mapI L)∧Below w.heap.size w wr)
 case atStart=>exact ⟨0,pi,Nat.zero_le _,rfl,rfl,HSt,HO1.out,HB1.out⟩
 case round =>
  obtain ⟨k,L,hk,rfl,rfl,HI,hown,hBw⟩:=hrel
  have HBw:Hid (Below w.heap.size w wr):=hBw
  have HO:Hid (wr.ownsRow w.heap.size 3 1 u5 L.length (mapI L)):=hown
  have hLn:L.length≤n:=by rw [←HX.out,←HLen.out];exact rinv_len HI.out HIn.out (by rw [HLen.out,HX.out];exact hi)
  obtain ⟨AL,cL,rfl,hIL⟩:=intT_own hown
  obtain ⟨m,hm⟩:∃ m,L.length=m:=⟨_,rfl⟩
  have HM:Hid (L.length=m):=hm
  have hmI:(m:Int)≤12:=by omega
  rw [hm] at hk hLn
  rw [hm]
  by_cases hlt:k<m
  ·have hki:(k:Int)<(m:Int):=by omega
   obtain ⟨hcL,-,hL0 | ⟨bl,cs,fr,rfl,hbl,hcl⟩⟩:=hIL
   ·rw [hL0] at hm;simp at hm;omega
   have cx:=hcl k (by omega)
   have hx:=rinv_in HI.out HIn.out (by rw [HLen.out,HX.out];exact hi) _ (mem_at (L:=L) (j:=k) (by omega))
   rw [HLen.out,HX.out] at hx
   obtain ⟨y,hy⟩:∃ y:Nat,L.getD k 0=(y:Int):=⟨(L.getD k 0).toNat,by omega⟩
   have HY:Hid (L.getD k 0=(y:Int)):=hy
   rw [hy] at cx hx
   have hyn:y<n:=by omega
   have hyi:(y:Int)<(n:Int):=by omega
   have cy:=(hBw.cell (p:=⟨b,y,none⟩) hbw).trans (HC.out y (by rw [HX.out];exact hyn))
   have HRy:Hid (IntT w (xs.getD y noR).A (xs.getD y noR).c (xs.getD y noR).p):=HRw.out _ (rl_mem (by rw [HX.out];exact hyn))
   have hry:=(HNd.out _ (rl_mem (k:=y) (by rw [HX.out];exact hyn))).2
   have HRow:Hid (rowN (lR xs) (L.getD k 0)=(xs.getD y noR).p):=by
    show _=_
    rw [hy]
    unfold rowN
    rw [Int.toNat_natCast,lR_at]
   have HRk:Hid (Rch (lR xs) i (L.getD k 0)):=HI.out.2.1 _ (mem_at (by omega))
   obtain ⟨R,hRe⟩:∃ R,(xs.getD y noR).p=R:=⟨_,rfl⟩
   rw [hRe] at cy HRy hry HRow
   generalize (xs.getD y noR).A=Ay at cy HRy
   generalize (xs.getD y noR).c=cy' at cy HRy
   obtain ⟨r,hr⟩:∃ r,R.length=r:=⟨_,rfl⟩
   have HRl:Hid (R.length=r):=hr
   rw [hr] at cy hry
   have hrI:(r:Int)≤12:=by omega
   have hblt:bl<wr.heap.size:=(Array.getElem?_eq_some_iff.1 hbl).1
   clear hcl hx hown hBw hbl hy hRe hr hm
   go_wp2_with fail
   go_loopg [5,28] r (fun gg s5 s28 wi => ∃ (j:Nat) (K:List Int),j≤r∧gg=r-j∧s28=.int .i64 j∧Hid (RInv (lR xs) i K k∧(∃ T,K=L ++ T)∧∀ t,t<j→R.getD t 0∈K)∧wi.ownsRow w.heap.size 3 1 s5 K.length (mapI K)∧Below w.heap.size w wi)
   case atStart=>exact ⟨0,L,Nat.zero_le _,rfl,rfl,(⟨HI.out,⟨[],by simp⟩,fun t ht=>absurd ht (Nat.not_lt_zero _)⟩:_∧_∧_),by have h:=HO.out;rw [HM.out] at h;rw [HM.out];exact h,HBw.out⟩
   case round =>
    obtain ⟨wj,rfl⟩:∃ wj:World,wj=wr:=⟨_,rfl⟩
    obtain ⟨j,K,hj,rfl,rfl,HK,hown,hBj⟩:=hrel
    have HBj:Hid (Below w.heap.size w wj):=hBj
    have HOj:Hid (wj.ownsRow w.heap.size 3 1 u5 K.length (mapI K)):=hown
    have hKn:K.length≤n:=by rw [←HX.out,←HLen.out];exact rinv_len HK.out.1 HIn.out (by rw [HLen.out,HX.out];exact hi)
    obtain ⟨AK,cK,rfl,hIK⟩:=intT_own hown
    by_cases hjl:j<r
    ·have hji:(j:Int)<(r:Int):=by omega
     obtain ⟨hcR,-,hR0 | ⟨br,csr,frr,rfl,hbr,hcr⟩⟩:=HRy.out.later hBj
     ·have:=HRl.out;rw [hR0] at this;simp at this;omega
     have cz:=hcr j (by rw [HRl.out];exact hjl)
     have hbrl:br<wj.heap.size:=(Array.getElem?_eq_some_iff.1 hbr).1
     rw [HRl.out] at hcR
     have hcRi:(r:Int)≤(cy':Int):=by omega
     obtain ⟨x,hx⟩:∃ x,R.getD j 0=x:=⟨_,rfl⟩
     have HXx:Hid (R.getD j 0=x):=hx
     rw [hx] at cz
     have hct:=contains_ints AK cK K x wj (by omega) hIK.at
     obtain ⟨mk,hmk⟩:∃ mk,K.length=mk:=⟨_,rfl⟩
     have HMk:Hid (K.length=mk):=hmk
     have HKn:Hid (mk≤n):=by show _≤_;omega
     rw [hmk] at hct hKn
     rw [hmk]
     clear hcr hbr hown hBj hIK hx hmk
     by_cases hin:x∈K
     ·have hb:inB K x=true:=by unfold inB;exact decide_eq_true hin
      rw [hb] at hct
      have HK2:Hid (RInv (lR xs) i K k∧(∃ T,K=L ++ T)∧∀ t,t<j+1→R.getD t 0∈K):=⟨HK.out.1,HK.out.2.1,fun t ht=>by
       by_cases e:t=j
       ·rw [e,HXx.out];exact hin
       ·exact HK.out.2.2 t (by omega)⟩
      clear hb hin
      go_wp2_with fail
      refine hct.mono ?_
      rintro e w2 ⟨rfl,hb2⟩
      have HB2:Hid (Below w.heap.size w w2):=onB HBj.out hb2
      have HO2:Hid (w2.ownsRow w.heap.size 3 1 (.slice AK mk cK) K.length (mapI K)):=by have h:=own_later HOj.out hb2;rw [HMk.out] at h;show World.ownsRow ..;rw [HMk.out];exact h
      clear hb2 hct
      go_wp2_with fail
      go_roundg (r-(j+1))
      case measure=>omega
      case rel=>exact ⟨j+1,K,by omega,rfl,by go_num,HK2,HO2.out,HB2.out⟩
     ·have hb:inB K x=false:=by unfold inB;exact decide_eq_false hin
      rw [hb] at hct
      have HK2:Hid (RInv (lR xs) i (K ++ [x]) k∧(∃ T,K ++ [x]=L ++ T)∧∀ t,t<j+1→R.getD t 0∈K ++ [x]):=by
       obtain ⟨hI,⟨T,hT⟩,hA⟩:=HK.out
       refine ⟨rinv_put hI ?_ hin ?_,⟨T ++ [x],by rw [hT,List.append_assoc]⟩,fun t ht=>?_⟩
       ·rw [hT,List.length_append,HM.out];omega
       ·refine HRk.out.snoc ?_
        rw [HRow.out,←HXx.out]
        exact mem_at (by rw [HRl.out];exact hjl)
       ·by_cases e:t=j
        ·rw [e,HXx.out];simp
        ·exact List.mem_append_left _ (hA t (by omega))
      clear hb hin
      go_wp2_with fail
      refine hct.mono ?_
      rintro e w2 ⟨rfl,hb2⟩
      have hB2:Below w.heap.size w w2:=onB HBj.out hb2
      have HB2:Hid (Below w.heap.size w w2):=hB2
      have HO2:Hid (w2.ownsRow w.heap.size 3 1 (.slice AK mk cK) mk (mapI K)):=by have h:=own_later HOj.out hb2;rw [HMk.out] at h;exact h
      have hsz:=hB2.size
      clear hb2 hct hB2
      go_wp2_with (at_builtin;refine wpList_append_own _ rfl _ _ 47 rfl w.heap.size 3 i0 (.int .i64 0) 1 8 Tryz.underlying47 hi0 hz0 hz1 hz2 rfl (by decide) _ _ _ rfl (HO2.out.alloc _) ⟨w2.heap.size,0,none⟩ 1 1 [.int .i64 x] rfl rfl one_cell one_one (by have:=HKn.out;unfold maxLen;omega) (by have:=HKn.out;omega) (by simp;omega) ?_)
      intro v' w3 hown' hgrow _
      have HB3:Hid (Below w.heap.size w w3):=grown_own HB2.out HO2.out hgrow
      have HO3:Hid (w3.ownsRow w.heap.size 3 1 v' (K ++ [x]).length (mapI (K ++ [x]))):=by
       show World.ownsRow ..
       rw [mapI_snoc,List.length_append,HMk.out];exact hown'
      clear hown' hgrow
      go_wp2_with fail
      go_roundg (r-(j+1))
      case measure=>omega
      case rel=>exact ⟨j+1,K ++ [x],by omega,rfl,by go_num,HK2,HO3.out,HB3.out⟩
    ·have hje:j=r:=by omega
     subst hje
     have HI2:Hid (k+1≤K.length∧RInv (lR xs) i K (k+1)):=by
      obtain ⟨hI,⟨T,hT⟩,hA⟩:=HK.out
      refine ⟨by rw [hT,List.length_append,HM.out];omega,rinv_next hI fun y' hy'=>?_⟩
      rw [hT,getD_app (by rw [HM.out];exact hlt),HRow.out] at hy'
      obtain ⟨t,ht,rfl⟩:=List.getElem_of_mem hy'
      have h:=hA t (by rw [←HRl.out];exact ht)
      rw [List.getD_eq_getElem?_getD,List.getElem?_eq_getElem ht] at h
      exact h
     clear hown hBj hIK hKn
     go_wp2_with fail
     go_roundg (n-(k+1))
     case measure=>omega
     case rel=>exact ⟨k+1,K,HI2.out.1,rfl,by go_num,HI2.out.2,HOj.out,HBj.out⟩
  ·have hke:k=m:=by omega
   subst hke
   have HEnd:Hid (∀ x,x∈L↔Rch (lR xs) i x):=rinv_end (by rw [HM.out];exact HI.out)
   have HIL:Hid (IntsAt wr AL cL L):=hIL.at
   clear hown hBw hIL hm
   go_wp2_with fail
   go_ret
   exact ⟨⟨AL,cL,L,by rw [HM.out];rfl,HIL.out,by rw [HM.out];omega,HEnd.out⟩,HBw.out⟩
end Go.Proofs.YtfldgghobddgkaaGreatDoor
