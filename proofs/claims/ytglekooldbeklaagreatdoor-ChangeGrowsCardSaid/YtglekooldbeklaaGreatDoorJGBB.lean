/-
  What the draft's methods resign, move and add answer, and what they leave.
-/
import Derived.Test.YtglekooldbeklaaGreatDoorJGBA
namespace Go.Proofs.YtglekooldbeklaaGreatDoor
open Go.ChangeShapes Go.WideShapes Go.ChangeAt Go.RowKit Go.Lib
set_option maxRecDepth 100000
def addD (d:Dm) (m:Mem):Dm:=⟨d.name,d.solve,d.n+1,fun j=>if j=d.n then m else d.mem j⟩
def putM (M:Nat→Mem) (i:Nat) (m:Mem):Nat→Mem:=fun j=>if j=i then m else M j
def setMb (d:Dm) (i:Nat) (m:Mem):Dm:=⟨d.name,d.solve,d.n,putM d.mem i m⟩
theorem cellsMb_set {M:Nat→Mem} {n i f:Nat} {v:Value} {m:Mem} (hi:i<n) (hf:f<4) (hv:mcV (fun _=>m) f=v) (hm:∀ f',f'<4→f'≠f→mcV (fun _=>m) f'=mcV (fun _=>M i) f'):(cellsMb M n).set (i*4+f) v=cellsMb (putM M i m) n:=by
 rw [←rowF_mc,←rowF_mc]
 refine List.ext_getElem? fun j=>?_
 rw [List.getElem?_set]
 by_cases hj:j<n*4
 ·rw [rowF_get _ hj,rowF_get _ hj]
  have e1:∀ (M:Nat→Mem),mcV M j=mcV (fun _=>M (j / 4)) (j % 4):=fun M=>by
   unfold mcV
   rw [Nat.mod_mod]
  rw [e1 M,e1 (putM M i m)]
  by_cases e:j / 4=i
  ·rw [show putM M i m (j / 4)=m from if_pos e]
   by_cases e2:j % 4=f
   ·rw [if_pos (by omega),if_pos (by rw [rowF_len];omega),e2,hv]
   ·rw [if_neg (by omega),hm _ (by omega) e2,e]
  ·rw [show putM M i m (j / 4)=M (j / 4) from if_neg e,if_neg (by omega)]
 ·rw [if_neg (by omega),List.getElem?_eq_none (by rw [rowF_len];omega),List.getElem?_eq_none (by rw [rowF_len];omega)]
def Drawn (w:World) (B q g cd n k ge ce:Nat) (D:Nat→Dm) (l:List En):Prop := ∃ G C ys,DrA w B q g cd n k ge ce D G C ys∧lE ys=l
def MPost (w:World) (B q g cd n k ge ce:Nat) (D:Nat→Dm) (E:Int) (d':Dm) (l':List En) (e:Ending) (w':World):Prop:=e=.returned (errV E)∧(E=0→Drawn w' B q g cd n k ge ce (putD D k d') l')∧Lw B w w'
theorem MPost.bad {w w':World} {B q g cd n k ge ce:Nat} {D:Nat→Dm} {E:Int} {d':Dm} {l':List En} (hE:E≠0) (hB:B≤w.heap.size) (hb:Below w.heap.size w w'):MPost w B q g cd n k ge ce D E d' l' (.returned (errV E)) w' :=
 ⟨rfl,fun h=>absurd h hE,Lw.of hB hb⟩
def resE (s:Int):Int:=if s < -1∨1<s then 1 else 0
def resD (d:Dm) (i:Nat) (s:Int):Dm:=setMb d i ⟨(d.mem i).name,(d.mem i).parent,s,(d.mem i).formula⟩
set_option maxHeartbeats 1000000 in
theorem resign_any (B q g cd n k ge ce:Nat) (D:Nat→Dm) (G C:Nat→Nat) (ys:List EnL) (i:Nat) (s:Int) (w:World) (hB:B≤w.heap.size) (hi:i<(D k).n) (hn:(D k).n≤12) (h:DrA w B q g cd n k ge ce D G C ys) :
  Calls Tryz.prog 40 #[.pointer (some ⟨q,0,none⟩),.int .i64 i,.int .i64 s] w (MPost w B q g cd n k ge ce D (resE s) (resD (D k) i s) (lE ys)):=by
 by_cases h1:s < -1
 ·rw [show resE s=1 from if_pos (Or.inl h1)]
  have hF:=hid_of (MPost.bad (q:=q) (g:=g) (cd:=cd) (n:=n) (k:=k) (ge:=ge) (ce:=ce) (D:=D) (d':=resD (D k) i s) (l':=lE ys) (show (1:Int)≠0 by decide) hB (Below.refl _ w))
  clear h
  go_enter Tryz.func40,Tryz.ntmps40
  go_wp2_with fail
  go_ret
  exact hF.out
 by_cases h2:1<s
 ·rw [show resE s=1 from if_pos (Or.inr h2)]
  have hF:=hid_of (MPost.bad (q:=q) (g:=g) (cd:=cd) (n:=n) (k:=k) (ge:=ge) (ce:=ce) (D:=D) (d':=resD (D k) i s) (l':=lE ys) (show (1:Int)≠0 by decide) hB (Below.refl _ w))
  have h1' : -1≤s:=by omega
  clear h h1
  go_enter Tryz.func40,Tryz.ntmps40
  go_wp2_with fail
  go_ret
  exact hF.out
 rw [show resE s=0 from if_neg (by omega)]
 obtain ⟨c0,c1,c2,-⟩:=h.cells
 obtain ⟨-,-,d2,-⟩:=h.dim
 have hx:=(h.row.cellAt (i*4+2) (by omega)).trans (cellsMb_at (D k).mem (D k).n i hi).2.2.1
 have hfz:=h.row.frozenAt (i*4+2)
 have hF:Hid (MPost w B q g cd n k ge ce D 0 (resD (D k) i s) (lE ys) (.returned (errV 0)) (w.setCell ⟨G k,i*4+2,none⟩ (.int .i64 s))):=by
  obtain ⟨r1,r2⟩:=h.setM (x:=i*4+2) (v:=.int .i64 s) (M':=(resD (D k) i s).mem) (cellsMb_set hi (by omega) rfl fun f hf hne=>by
   have:f=0∨f=1∨f=3:=by omega
   rcases this with rfl | rfl | rfl <;> rfl)
  exact ⟨rfl,fun _=>⟨G,C,ys,r1,rfl⟩,r2⟩
 have hiI:(i:Int)<((D k).n:Int):=by omega
 have hnI:((D k).n:Int)≤12:=by omega
 have hcI:((D k).n:Int)≤(C k:Int):=by have:=(ow_blk h.row).2.2.1;omega
 have h1' : -1≤s:=by omega
 have h2':s≤1:=by omega
 generalize G k=gk at d2 hx hfz hF
 generalize C k=ck at d2 hcI
 generalize (D k).n=m at d2 hiI hnI hcI
 clear h h1 h2 hn hi
 go_enter Tryz.func40,Tryz.ntmps40
 go_wp2_with fail
 go_ret
 exact hF.out
def moveE (d:Dm) (l:List En) (k i:Nat) (tt:Int):Int:=if tt < -1∨(i:Int)≤tt then 1 else if tt=(d.mem i).parent∨wrAt l k tt=true∨(tt≠-1∧(d.mem tt.toNat).formula.size≠0) then 6 else 0
def movD (d:Dm) (i:Nat) (tt:Int):Dm:=setMb d i ⟨(d.mem i).name,tt,(d.mem i).sign,(d.mem i).formula⟩
set_option maxHeartbeats 2000000 in
theorem move_any (B q g cd n k ge ce:Nat) (D:Nat→Dm) (G C:Nat→Nat) (ys:List EnL) (i:Nat) (tt:Int) (w:World) (hB:B≤w.heap.size) (hi:i<(D k).n) (hn:(D k).n≤12) (h:DrA w B q g cd n k ge ce D G C ys) :
  Calls Tryz.prog 39 #[.pointer (some ⟨q,0,none⟩),.int .i64 i,.int .i64 tt] w (MPost w B q g cd n k ge ce D (moveE (D k) (lE ys) k i tt) (movD (D k) i tt) (lE ys)):=by
 have hBad:∀ (E:Int) w',E≠0→Below w.heap.size w w'→MPost w B q g cd n k ge ce D E (movD (D k) i tt) (lE ys) (.returned (errV E)) w':=fun E w' hE hb=>MPost.bad hE hB hb
 by_cases h1:tt < -1
 ·rw [show moveE (D k) (lE ys) k i tt=1 from if_pos (Or.inl h1)]
  have hF:=hid_of (hBad 1 w (by decide) (Below.refl _ w))
  clear h hBad
  go_enter Tryz.func39,Tryz.ntmps39
  go_wp2_with fail
  go_ret
  exact hF.out
 by_cases h2:(i:Int)≤tt
 ·rw [show moveE (D k) (lE ys) k i tt=1 from if_pos (Or.inr h2)]
  have hF:=hid_of (hBad 1 w (by decide) (Below.refl _ w))
  have h1' : -1≤tt:=by omega
  clear h h1 hBad
  go_enter Tryz.func39,Tryz.ntmps39
  go_wp2_with fail
  go_ret
  exact hF.out
 obtain ⟨c0,c1,c2,-⟩:=h.cells
 obtain ⟨-,-,d2,-⟩:=h.dim
 have hx:=(h.row.cellAt (i*4+1) (by omega)).trans (cellsMb_at (D k).mem (D k).n i hi).2.1
 have hfz:=h.row.frozenAt (i*4+1)
 have hiI:(i:Int)<((D k).n:Int):=by omega
 have hnI:((D k).n:Int)≤12:=by omega
 have hcI:((D k).n:Int)≤(C k:Int):=by have:=(ow_blk h.row).2.2.1;omega
 have h1' : -1≤tt:=by omega
 have h2':tt<(i:Int):=by omega
 have hwr:=written_any B q g cd n k ge ce D G C ys tt w h
 have HLt:=hid_of h.lt
 have hE0:moveE (D k) (lE ys) k i tt=if tt=((D k).mem i).parent∨wrAt (lE ys) k tt=true∨(tt≠-1∧((D k).mem tt.toNat).formula.size≠0) then 6 else 0:=if_neg (by omega)
 rw [hE0]
 by_cases h3:tt=((D k).mem i).parent
 ·rw [if_pos (Or.inl h3)]
  have hF:=hid_of (hBad 6 w (by decide) (Below.refl _ w))
  have h3b:(tt == ((D k).mem i).parent)=true:=by simpa using h3
  generalize ((D k).mem i).parent=pa at hx h3b
  generalize G k=gk at d2 hx hfz
  generalize C k=ck at d2 hcI
  generalize (D k).n=m at d2 hiI hnI hcI
  clear h h1 h2 hn hi hBad h3 hwr hE0
  go_enter Tryz.func39,Tryz.ntmps39
  go_wp2_with fail
  go_ret
  exact hF.out
 have h3b:(tt == ((D k).mem i).parent)=false:=by simpa using h3
 cases h4:wrAt (lE ys) k tt
 case true =>
  rw [if_pos (Or.inr (Or.inl rfl))]
  have hF:=hid_of (fun w'=>hBad 6 w' (by decide))
  rw [h4] at hwr
  generalize ((D k).mem i).parent=pa at hx h3b
  generalize G k=gk at d2 hx hfz
  generalize C k=ck at d2 hcI
  generalize (D k).n=m at d2 hiI hnI hcI
  clear h h1 h2 hn hi hBad h3 h4 hE0
  go_enter Tryz.func39,Tryz.ntmps39
  go_wp2_with fail
  refine hwr.mono ?_
  rintro e w1 ⟨rfl,hb1⟩
  have hG:=hid_of (hF.out w1 hb1)
  go_wp2_with fail
  go_ret
  exact hG.out
 rw [h4] at hwr
 have hSet:Hid (∀ w1,Below w.heap.size w w1→MPost w B q g cd n k ge ce D 0 (movD (D k) i tt) (lE ys) (.returned (errV 0)) (w1.setCell ⟨G k,i*4+1,none⟩ (.int .i64 tt))∧(∃ u,w1.cell? ⟨G k,i*4+1,none⟩=some u)∧w1.frozen? ⟨G k,i*4+1,none⟩=false):=fun w1 hb1=>by
  have h':=h.later hb1
  obtain ⟨r1,r2⟩:=h'.setM (x:=i*4+1) (v:=.int .i64 tt) (M':=(movD (D k) i tt).mem) (cellsMb_set hi (by omega) rfl fun f hf hne=>by
   have:f=0∨f=2∨f=3:=by omega
   rcases this with rfl | rfl | rfl <;> rfl)
  exact ⟨⟨rfl,fun _=>⟨G,C,ys,r1,rfl⟩,(Lw.of hB hb1).trans r2⟩,⟨_,(h'.row.cellAt (i*4+1) (by omega)).trans (cellsMb_at (D k).mem (D k).n i hi).2.1⟩,h'.row.frozenAt _⟩
 by_cases h5:tt = -1
 ·subst h5
  rw [if_neg (by rintro (e | e | e);exact h3 e;cases e;exact e.1 rfl)]
  generalize ((D k).mem i).parent=pa at hx h3b
  generalize G k=gk at d2 hx hfz hSet
  generalize C k=ck at d2 hcI
  generalize (D k).n=m at d2 hiI hnI hcI
  clear h h1 h2 hn hi hBad h3 h4 hE0
  go_enter Tryz.func39,Tryz.ntmps39
  go_wp2_with fail
  refine hwr.mono ?_
  rintro e w1 ⟨rfl,hb1⟩
  obtain ⟨p1,⟨u,p2⟩,p3⟩:=hSet.out w1 hb1
  have hG:=hid_of p1
  clear p1
  go_wp2_with fail
  go_ret
  exact hG.out
 obtain ⟨p,rfl⟩:∃ p:Nat,tt=p:=⟨tt.toNat,by omega⟩
 have hpn:p<(D k).n:=by omega
 rw [Int.toNat_natCast]
 have HFo:Hid (∀ w1,Below w.heap.size w w1→w1.cell? ⟨G k,p*4+3,none⟩=some (.string ((D k).mem p).formula)):=fun w1 hb1=>((h.later hb1).row.cellAt (p*4+3) (by omega)).trans (cellsMb_at (D k).mem (D k).n p hpn).2.2.2
 have hne1:((p:Int) != -1)=true:=by simp
 have hpI:(p:Int)<((D k).n:Int):=by omega
 by_cases h6:((D k).mem p).formula.size=0
 ·rw [if_neg (by rintro (e | e | e);exact h3 e;cases e;exact e.2 h6)]
  have hem:((D k).mem p).formula.toList.isEmpty=true:=by rw [empty_same];simpa using h6
  generalize ((D k).mem p).formula=fo at HFo hem
  generalize ((D k).mem i).parent=pa at hx h3b
  generalize G k=gk at d2 hx hfz hSet HFo
  generalize C k=ck at d2 hcI
  generalize (D k).n=m at d2 hiI hnI hcI hpI
  clear h h1 h2 hn hi hBad h3 h4 hE0 h5 hpn h6
  go_enter Tryz.func39,Tryz.ntmps39
  go_wp2_with fail
  refine hwr.mono ?_
  rintro e w1 ⟨rfl,hb1⟩
  obtain ⟨p1,⟨u,p2⟩,p3⟩:=hSet.out w1 hb1
  have p4:=HFo.out w1 hb1
  have hG:=hid_of p1
  clear p1
  go_wp2_with fail
  go_ret
  exact hG.out
 ·rw [if_pos (Or.inr (Or.inr ⟨by omega,h6⟩))]
  have hF:=hid_of (fun w'=>hBad 6 w' (by decide))
  have hem:((D k).mem p).formula.toList.isEmpty=false:=by rw [empty_same];simpa using h6
  generalize ((D k).mem p).formula=fo at HFo hem
  generalize ((D k).mem i).parent=pa at hx h3b
  generalize G k=gk at d2 hx hfz hSet HFo
  generalize C k=ck at d2 hcI
  generalize (D k).n=m at d2 hiI hnI hcI hpI
  clear h h1 h2 hn hi hBad h3 h4 hE0 h5 hpn h6
  go_enter Tryz.func39,Tryz.ntmps39
  go_wp2_with fail
  refine hwr.mono ?_
  rintro e w1 ⟨rfl,hb1⟩
  have p4:=HFo.out w1 hb1
  have hG:=hid_of (hF.out w1 hb1)
  go_wp2_with fail
  go_ret
  exact hG.out
end Go.Proofs.YtglekooldbeklaaGreatDoor
