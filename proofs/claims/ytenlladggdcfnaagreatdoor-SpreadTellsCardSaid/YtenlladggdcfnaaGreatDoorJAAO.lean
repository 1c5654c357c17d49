/-
  What operand and take of package formula do, in whatever memory; who takes the words of a text: a builder, or nobody.
-/
import Derived.Lib.ItoaMem
import Derived.Lib.AtoiTie
import Derived.Test.YtenlladggdcfnaaGreatDoorShelfF
import Derived.Lib.AtoiErrMem
import Derived.Test.YtenlladggdcfnaaGreatDoorJAAN
namespace Go.Proofs.YtenlladggdcfnaaGreatDoor
open Go.ChangeShapes Go.WideShapes Go.ChangeAt Go.RowKit
set_option maxRecDepth 20000
theorem dec_fold:∀ (l:List UInt8) (acc:Nat),(∀ b∈l,48≤b.toNat∧b.toNat≤57)→∃ m:Nat,Lib.decFrom acc l=some m∧l.foldl (fun n c=>n*10+((c.toNat:Int)-48)) (acc:Int)=(m:Int)
 | [],acc,_=>⟨acc,rfl,rfl⟩
 | b :: r,acc,h=>by
  have hb:=h b (List.mem_cons_self ..)
  have hd:Lib.digitVal b=some (b.toNat-48):=by unfold Lib.digitVal;rw [if_pos hb]
  obtain ⟨m,h1,h2⟩:=dec_fold r (acc*10+(b.toNat-48)) (fun c hc=>h c (List.mem_cons_of_mem _ hc))
  refine ⟨m,?_,?_⟩
  ·simp only [Lib.decFrom,hd];exact h1
  ·rw [List.foldl_cons,←h2]
   congr 1
   omega
theorem digits_all {t:ByteArray} (h:∀ i,i<t.size→digB (byteN t i)=true):∀ b∈t.data.toList,48≤b.toNat∧b.toNat≤57:=by
 intro b hb
 obtain ⟨i,hi,rfl⟩:=List.getElem_of_mem hb
 have h1:=h i (by simpa using hi)
 unfold byteN digB at h1
 rw [List.getD,List.getElem?_eq_getElem hi] at h1
 simp only [Option.getD_some,Bool.and_eq_true,decide_eq_true_eq] at h1
 omega
theorem atoi_num {t:ByteArray} (h1:1≤t.size) (h:∀ i,i<t.size→digB (byteN t i)=true):Lib.atoi t.data.toList=some (numW t):=by
 have hall:=digits_all h
 obtain ⟨m,hm,hn⟩:=dec_fold t.data.toList 0 hall
 unfold numW
 have hz:((0:Nat):Int)=0:=rfl
 rw [hz] at hn
 rw [hn]
 have hne:t.data.toList≠[]:=by
  intro e
  have:t.data.toList.length=0:=by rw [e];rfl
  have h2:t.size=t.data.toList.length:=by simp
  omega
 cases hl:t.data.toList with
 | nil=>exact absurd hl hne
 | cons b r =>
  rw [hl] at hall hm
  have hb:=hall b (List.mem_cons_self ..)
  have e1:(b == 45)=false:=by
   apply Bool.eq_false_iff.2;intro e;rw [beq_iff_eq] at e;subst e;revert hb;decide
  have e2:(b == 43)=false:=by
   apply Bool.eq_false_iff.2;intro e;rw [beq_iff_eq] at e;subst e;revert hb;decide
  simp only [Lib.atoi,e1,e2,Bool.false_eq_true,if_false]
  unfold Lib.decNat
  rw [if_neg (by simp),hm]
  rfl
theorem atoin_any (t:ByteArray) (w:World) (h1:1≤t.size) (h7:t.size≤7) (h:∀ i,i<t.size→digB (byteN t i)=true):Calls Tryz.prog 182 #[.string t] w fun e w'=>e=.returned (.tuple #[.int .i64 (numW t),.nilIface])∧Below w.heap.size w w' :=
 (Any.strconv_Atoi Tryz.lays172 t (numW t) (by omega) (atoi_num h1 h) w).mono fun e w' ⟨he,x,hw⟩=>⟨he,by rw [hw];exact Lib.bytesWorld_below _ _ _⟩
theorem ndV_def (x:Nd):ndV x=.agg #[.int .i64 x.op,.int .i64 x.n,.string x.name,.int .i64 x.left,.int .i64 x.right]:=rfl
theorem zero_box {w w1 w2:World} (h1:Below (w.alloc (.cells #[.int .i64 0,.int .i64 0,.string ⟨#[]⟩,.int .i64 0,.int .i64 0] 172)).heap.size (w.alloc (.cells #[.int .i64 0,.int .i64 0,.string ⟨#[]⟩,.int .i64 0,.int .i64 0] 172)) w1) (h2:Below w1.heap.size w1 w2) :
  Below w.heap.size w w2∧(∀ j,w2.frozen? ⟨w.heap.size,j,none⟩=false)∧w2.cell? ⟨w.heap.size,0,none⟩=some (.int .i64 0)∧w2.cell? ⟨w.heap.size,1,none⟩=some (.int .i64 0)∧w2.cell? ⟨w.heap.size,2,none⟩=some (.string ⟨#[]⟩)∧w2.cell? ⟨w.heap.size,3,none⟩=some (.int .i64 0)∧w2.cell? ⟨w.heap.size,4,none⟩=some (.int .i64 0):=by
 have hb:=onB h1 h2
 have hz:w.heap.size<(w.alloc (.cells #[.int .i64 0,.int .i64 0,.string ⟨#[]⟩,.int .i64 0,.int .i64 0] 172)).heap.size:=by simp
 have h:=(hb.block _ hz).trans (heap_alloc_new w _)
 exact ⟨onB (by go_grown) hb,fun j=>by simp [World.frozen?,h],by simp [World.cell?,h],by simp [World.cell?,h],by simp [World.cell?,h],by simp [World.cell?,h],by simp [World.cell?,h]⟩
set_option maxHeartbeats 1000000 in
theorem opnd_any (t:ByteArray) (w:World) (h1:1≤t.size) (h9:t.size≤1000) (h:letB (byteN t 0)=true∨(t.size≤7∧∀ i,i<t.size→digB (byteN t i)=true)):Calls Tryz.prog 159 #[.string t] w fun e w'=>e=.returned (ndV (opndN t))∧Below w.heap.size w w':=by
 have hil:=islet_any (byteN t 0)
 have hby:=byteN_get t 0 (by omega)
 have h1':0<(t.size:Int):=by omega
 by_cases hl:letB (byteN t 0)=true
 ·have hO:opndN t=⟨2,0,t,0,0⟩:=by
   unfold opndN letB at *
   simp at hl
   rw [if_pos (by omega)]
  have hcl:=fun w=>sclone_any t w (by omega)
  rw [hO,ndV_def]
  rw [hl] at hil
  clear h hl hO
  generalize byteN t 0=c at *
  go_enter Tryz.func159,Tryz.ntmps159
  go_wp2_with fail
  refine (hil _).mono ?_
  rintro e w1 ⟨rfl,hb1⟩
  go_wp2_with fail
  refine (hcl _).mono ?_
  rintro e w2 ⟨rfl,hb2⟩
  obtain ⟨hB,hf,z0,z1,z2,z3,z4⟩:=zero_box hb1 hb2
  have HB:Hid (Below w.heap.size w w2):=hB
  have y0:=hf 0
  have y1:=hf 1
  have y2:=hf 2
  have y3:=hf 3
  have y4:=hf 4
  clear hb1 hb2 hB hf
  go_wp2_with fail
  refine bodyPost_ret (v:=.agg #[.int .i64 2,.int .i64 0,.string t,.int .i64 0,.int .i64 0]) (by simp [results,Tryz.results159,go_sem,z0,z1,z2,z3,z4]) rfl ⟨rfl,?_⟩
  exact ((((HB.out.setCell (Nat.le_refl _) _).setCell (Nat.le_refl _) _).setCell (Nat.le_refl _) _).setCell (Nat.le_refl _) _).setCell (Nat.le_refl _) _
 ·have hl':letB (byteN t 0)=false:=by simpa using hl
  obtain ⟨h7,hd⟩:=h.resolve_left hl
  have hO:opndN t=⟨1,numW t,⟨#[]⟩,0,0⟩:=by
   unfold opndN letB at *
   simp at hl
   rw [if_neg (by omega)]
  have hat:=fun w=>atoin_any t w h1 h7 hd
  rw [hO,ndV_def]
  rw [hl'] at hil
  clear h hl hO hd hl'
  generalize byteN t 0=c at *
  generalize numW t=n at *
  go_enter Tryz.func159,Tryz.ntmps159
  go_wp2_with fail
  refine (hil _).mono ?_
  rintro e w1 ⟨rfl,hb1⟩
  go_wp2_with fail
  refine (hat _).mono ?_
  rintro e w2 ⟨rfl,hb2⟩
  obtain ⟨hB,hf,z0,z1,z2,z3,z4⟩:=zero_box hb1 hb2
  have HB:Hid (Below w.heap.size w w2):=hB
  have y0:=hf 0
  have y1:=hf 1
  have y2:=hf 2
  have y3:=hf 3
  have y4:=hf 4
  clear hb1 hb2 hB hf
  go_wp2_with fail
  refine bodyPost_ret (v:=.agg #[.int .i64 1,.int .i64 n,.string ⟨#[]⟩,.int .i64 0,.int .i64 0]) (by simp [results,Tryz.results159,go_sem,z0,z1,z2,z3,z4]) rfl ⟨rfl,?_⟩
  exact ((((HB.out.setCell (Nat.le_refl _) _).setCell (Nat.le_refl _) _).setCell (Nat.le_refl _) _).setCell (Nat.le_refl _) _).setCell (Nat.le_refl _) _
structure FitB (a o:Nat) (ph:Bool) (b:Bld):Prop where
 zero:zerosN b.waiting=o
 ops:opsN b.waiting+(if ph then 1 else 0)≤b.ready.length
 nodes:b.nodes.length+opsN b.waiting≤a
 wait:b.waiting.length≤a
 ready:b.ready.length≤a
theorem BldV.push {N p cN cR cW k g c:Nat} {AN AR AW:Option Addr} {b:Bld} {w W w6:World} {x:Int} (hV:BldV N p AN cN AR cR AW cW b w) (hN:N≤w.heap.size) (hk:b.waiting.length=k) (hb:Below w.heap.size w W) (hg:W.grownBy w6 (Value.slice AW k cW).ownBlock)
  (ho:w6.ownsRow N 3 1 (.slice (some ⟨g,0,none⟩) (k+1) c) (k+1) (mapI b.waiting ++ [.int .i64 x])) (hat:(Value.slice AW k cW).ownBlock=some g∨g=W.heap.size) :
  (w6.cell? ⟨p,2,none⟩=some (.slice AW k cW)∧w6.frozen? ⟨p,2,none⟩=false)∧BldAt N p ⟨b.nodes,b.ready,b.waiting ++ [x]⟩ (w6.setCell ⟨p,2,none⟩ (.slice (some ⟨g,0,none⟩) (k+1) c))∧Kept N (fun k=>k=p) w (w6.setCell ⟨p,2,none⟩ (.slice (some ⟨g,0,none⟩) (k+1) c)):=by
 subst hk
 have h:=hV.reach hb hg (fun g e=>(own_block hV.wai e).1)
 have hh:=h.trans hV.blk
 refine ⟨⟨by simp [World.cell?,hh],by simp [World.frozen?,hh]⟩,?_⟩
 have hL:(b.waiting ++ [x]).length=b.waiting.length+1:=by simp
 have h2:=hV.wait (L:=b.waiting ++ [x]) (g:=g) (c:=c) (w2:=w6) hN hb hg (by rw [hL,mapI_snoc];exact ho) hat
 rw [hL] at h2
 exact ⟨⟨_,_,_,_,_,_,h2.1⟩,h2.2⟩
theorem settle_inv (least:Int):∀ (k:Nat) (b:Bld),b.waiting.length=k→opsN b.waiting+1≤b.ready.length →
  zerosN (settleTo least k b).waiting=zerosN b.waiting∧(settleTo least k b).ready.length+opsN b.waiting=b.ready.length+opsN (settleTo least k b).waiting∧(settleTo least k b).nodes.length+opsN (settleTo least k b).waiting=b.nodes.length+opsN b.waiting∧(settleTo least k b).waiting.length≤b.waiting.length∧opsN (settleTo least k b).waiting≤opsN b.waiting
 | 0,b,_,_=>⟨rfl,rfl,rfl,Nat.le_refl _,Nat.le_refl _⟩
 | k+1,b,hk,hr=>by
  by_cases h:b.waiting.getD k 0=0∨bindN (b.waiting.getD k 0)<least
  ·rw [settle_stop h];exact ⟨rfl,rfl,rfl,Nat.le_refl _,Nat.le_refl _⟩
  ·rw [settle_on h]
   obtain ⟨o1,o2⟩:=ops_last hk
   have hne:b.waiting.getD k 0≠0:=fun e=>h (Or.inl e)
   rw [if_pos hne] at o1
   rw [if_neg hne] at o2
   obtain ⟨l1,l2,l3⟩:=join_len (op:=b.waiting.getD k 0) (b:=⟨b.nodes,b.ready,b.waiting.take k⟩) (by show 2≤b.ready.length;omega)
   have hl:(joinBd (b.waiting.getD k 0) ⟨b.nodes,b.ready,b.waiting.take k⟩).waiting.length=k:=by rw [l3];simp;omega
   simp only at l1 l2 l3
   obtain ⟨q1,q2,q3,q4,q5⟩:=settle_inv least k (joinBd (b.waiting.getD k 0) ⟨b.nodes,b.ready,b.waiting.take k⟩) hl (by rw [l3];omega)
   rw [l3] at q1 q2 q3 q5
   exact ⟨by omega,by omega,by omega,by omega,by omega⟩
theorem settleB_inv (least:Int) (b:Bld) (h:opsN b.waiting+1≤b.ready.length) :
  zerosN (settleB least b).waiting=zerosN b.waiting∧(settleB least b).ready.length+opsN b.waiting=b.ready.length+opsN (settleB least b).waiting∧(settleB least b).nodes.length+opsN (settleB least b).waiting=b.nodes.length+opsN b.waiting∧(settleB least b).waiting.length≤b.waiting.length∧opsN (settleB least b).waiting≤opsN b.waiting:=settle_inv least _ b rfl h
theorem settle_zero:∀ (k:Nat) (b:Bld),b.waiting.length=k→∀ j,(settleTo 0 k b).waiting.length=j+1→(settleTo 0 k b).waiting.getD j 0=0
 | 0,b,hk,j,h=>by rw [settleTo] at h;omega
 | k+1,b,hk,j,h=>by
  by_cases hz:b.waiting.getD k 0=0∨bindN (b.waiting.getD k 0)<0
  ·rw [settle_stop hz] at h ⊢
   have e:j=k:=by omega
   rw [e]
   exact hz.resolve_right (by have:=bindN_ge (b.waiting.getD k 0);omega)
  ·rw [settle_on hz] at h ⊢
   exact settle_zero k _ (by show (b.waiting.take k).length=k;simp;omega) j h
theorem sign_cases {c:Int} (h:0≤signI c):(c=43∧signI c=0)∨(c=45∧signI c=1)∨(c=42∧signI c=2)∨(c=47∧signI c=3):=by
 unfold signI at *
 by_cases h1:c=43
 ·left;exact ⟨h1,by rw [if_pos h1]⟩
 by_cases h2:c=45
 ·right;left;exact ⟨h2,by rw [if_neg h1,if_pos h2]⟩
 by_cases h3:c=42
 ·right;right;left;exact ⟨h3,by rw [if_neg h1,if_neg h2,if_pos h3]⟩
 by_cases h4:c=47
 ·right;right;right;exact ⟨h4,by rw [if_neg h1,if_neg h2,if_neg h3,if_pos h4]⟩
 ·rw [if_neg h1,if_neg h2,if_neg h3,if_neg h4] at h;omega
set_option maxHeartbeats 4000000 in
theorem take_opn (N p:Nat) (b:Bld) (t:ByteArray) (w:World) (hN:N≤w.heap.size) (h1:t.size=1) (h40:byteN t 0=40) (h4:b.waiting.length≤200) (hB:BldAt N p b w) :
  Calls Tryz.prog 143 #[.pointer (some ⟨p,0,none⟩),.string t] w fun e w'=>e=.returned (.tuple #[])∧BldAt N p ⟨b.nodes,b.ready,b.waiting ++ [0]⟩ w'∧Kept N (fun k=>k=p) w w':=by
 obtain ⟨i0,hi0,hz0,hz1,hz2⟩:=info_parts Tryz.infoIntF
 obtain ⟨AN,cN,AR,cR,AW,cW,hV⟩:=hB
 have hby:=byteN_get t 0 (by omega)
 rw [h40] at hby
 have h1':0<(t.size:Int):=by omega
 have c2:=hV.c2
 have hlt:=hV.lt
 obtain ⟨k,hk⟩:∃ k,b.waiting.length=k:=⟨_,rfl⟩
 rw [hk] at c2
 have hkm:(k:Int)≤200:=by omega
 have HO:Hid (∀ w',Below w.heap.size w w'→w'.ownsRow N 3 1 (.slice AW k cW) k (mapI b.waiting)):=fun w' hb=>by have:=(hV.later hb).wai;rw [hk] at this;exact this
 have HV:Hid (BldV N p AN cN AR cR AW cW b w):=hV
 clear hV h40
 go_enter Tryz.func143,Tryz.ntmps143
 go_wp2_with (at_builtin;refine wpList_append_lies _ rfl _ _ 22 rfl N 3 i0 (.int .i64 0) 1 8 Tryz.underlying22 hi0 hz0 hz1 hz2 rfl (by decide) _ _ _ rfl (HO.out _ (by go_grown)) ⟨w.heap.size,0,none⟩ 1 1 [.int .i64 0] rfl rfl one_cell one_one (by omega) (by unfold maxLen;omega) (by omega) (by simp;omega) (w.heap.size+1) (by simp) ?_)
 intro g cg w6 hown6 hgrow hat hlt6
 obtain ⟨⟨y1,y2⟩,hP⟩:=HV.out.push hN hk (by go_grown) hgrow hown6 (by rcases hat with hat | hat;exact Or.inl hat;exact Or.inr (by simp;omega))
 have HP:Hid (BldAt N p ⟨b.nodes,b.ready,b.waiting ++ [0]⟩ (w6.setCell ⟨p,2,none⟩ (.slice (some ⟨g,0,none⟩) (k+1) cg))∧Kept N (fun k=>k=p) w (w6.setCell ⟨p,2,none⟩ (.slice (some ⟨g,0,none⟩) (k+1) cg))):=hP
 clear hown6 hgrow hat hlt6 hP
 go_wp2_with fail
 first | go_end0 | refine bodyPost_ret (results_none rfl _ _ _) rfl ?_
 exact ⟨rfl,HP.out⟩
set_option maxHeartbeats 4000000 in
theorem take_cls (N p:Nat) (b:Bld) (t:ByteArray) (w:World) (hN:N≤w.heap.size) (h1:t.size=1) (h41:byteN t 0=41) (k1:b.nodes.length+opsN b.waiting≤200) (k2:b.ready.length≤200) (k3:opsN b.waiting+1≤b.ready.length) (k4:b.waiting.length≤200) (k5:1≤zerosN b.waiting) (hB:BldAt N p b w) :
  Calls Tryz.prog 143 #[.pointer (some ⟨p,0,none⟩),.string t] w fun e w'=>e=.returned (.tuple #[])∧BldAt N p ⟨(settleB 0 b).nodes,(settleB 0 b).ready,(settleB 0 b).waiting.take ((settleB 0 b).waiting.length-1)⟩ w'∧Kept N (fun k=>k=p) w w':=by
 have hby:=byteN_get t 0 (by omega)
 rw [h41] at hby
 have h1':0<(t.size:Int):=by omega
 have hst:=settle_any N p b 0 w hN k1 k2 k3 k4 hB
 obtain ⟨q1,q2,q3,q4,q5⟩:=settleB_inv 0 b k3
 have hpos:1≤(settleB 0 b).waiting.length:=by have:=zo_len (settleB 0 b).waiting;omega
 generalize settleB 0 b=b1 at *
 obtain ⟨k,hk⟩:∃ k,b1.waiting.length=k+1:=⟨b1.waiting.length-1,by omega⟩
 rw [hk,Nat.add_sub_cancel]
 have hki:(k:Int)≤200:=by omega
 clear h41 hB
 go_enter Tryz.func143,Tryz.ntmps143
 go_wp2_with fail
 refine hst.mono ?_
 rintro e w1 ⟨rfl,⟨AN,cN,AR,cR,AW,cW,hV⟩,hK⟩
 have HV:Hid (BldV N p AN cN AR cR AW cW b1 w1):=hV
 have HK:Hid (Kept N (fun k=>k=p) w w1):=hK
 obtain ⟨g,hA,e0⟩:=own_int (k:=k) hV.wai (by omega)
 subst hA
 have hcap:k+1≤cW:=by
  rcases hV.wai.2 with ⟨h0,_⟩ | ⟨g,cap,cur,h0,_,_,h5,_⟩
  ·cases h0
  ·cases h0;omega
 have hci:(k:Int)+1≤(cW:Int):=by omega
 have c2:=hV.c2
 have cf:=hV.fr 2
 have hlt:=hV.lt
 rw [hk] at c2
 have HC:Hid (∀ w',Below w1.heap.size w1 w'→BldAt N p ⟨b1.nodes,b1.ready,b1.waiting.take k⟩ (w'.setCell ⟨p,2,none⟩ (.slice (some ⟨g,0,none⟩) k cW))∧Kept N (fun k=>k=p) w (w'.setCell ⟨p,2,none⟩ (.slice (some ⟨g,0,none⟩) k cW))):=by
  intro w' hb
  have hN1:N≤w1.heap.size:=Nat.le_trans hN hK.size
  obtain ⟨h4,h5⟩:=(hV.later hb).waitCut (k:=k) (Nat.le_trans hN1 hb.size) (by omega)
  exact ⟨⟨_,_,_,_,_,_,h4⟩,(hK.trans (kept_below hb hN1)).trans h5⟩
 clear hV hK hst
 go_wp2_with fail
 go_region
 all_goals (go_wp2_with fail;first | go_end0 | refine bodyPost_ret (results_none rfl _ _ _) rfl ?_)
 all_goals exact ⟨rfl,HC.out w1.drew (by go_grown)⟩
set_option maxHeartbeats 4000000 in
theorem take_opd (N p:Nat) (b:Bld) (t:ByteArray) (w:World) (hN:N≤w.heap.size) (h1:1≤t.size) (h9:t.size≤1000) (h:letB (byteN t 0)=true∨(t.size≤7∧∀ i,i<t.size→digB (byteN t i)=true)) (k1:b.nodes.length≤200) (k2:b.ready.length≤200) (hB:BldAt N p b w) :
  Calls Tryz.prog 143 #[.pointer (some ⟨p,0,none⟩),.string t] w fun e w'=>e=.returned (.tuple #[])∧BldAt N p (addB (opndN t) b) w'∧Kept N (fun k=>k=p) w w':=by
 have hby:=byteN_get t 0 (by omega)
 have h1':0<(t.size:Int):=by omega
 have hr:48≤byteN t 0:=by
  rcases h with h | ⟨-,h⟩
  ·unfold letB at h;simp at h;omega
  ·have:=h 0 (by omega);unfold digB at this;simp at this;omega
 have hop:=opnd_any t
 have hcc:(byteN t 0 == 40)=false∧(byteN t 0 == 41)=false∧(byteN t 0 == 43)=false∧(byteN t 0 == 45)=false∧(byteN t 0 == 42)=false∧(byteN t 0 == 47)=false:=by
  refine ⟨?_,?_,?_,?_,?_,?_⟩ <;> (apply Bool.eq_false_iff.2;intro e;rw [beq_iff_eq] at e;omega)
 obtain ⟨e1,e2,e3,e4,e5,e6⟩:=hcc
 have HOP:Hid (∀ w,Calls Tryz.prog 159 #[.string t] w fun e w'=>e=.returned (ndV (opndN t))∧Below w.heap.size w w'):=fun w=>opnd_any t w h1 h9 h
 have HB:Hid (BldAt N p b w):=hB
 clear h hB hop
 generalize byteN t 0=c at *
 generalize opndN t=x at *
 go_enter Tryz.func143,Tryz.ntmps143
 go_wp2_with fail
 refine (HOP.out _).mono ?_
 rintro e w1 ⟨rfl,hb1⟩
 obtain ⟨AN,cN,AR,cR,AW,cW,hV⟩:=HB.out
 have HB1:Hid (BldAt N p b w1):=⟨_,_,_,_,_,_,hV.later hb1⟩
 have HK1:Hid (Kept N (fun k=>k=p) w w1):=kept_below hb1 hN
 have hN1:N≤w1.heap.size:=Nat.le_trans hN hb1.size
 clear hV hb1
 go_wp2_with fail
 refine (add_any N p b x w1 hN1 k1 k2 HB1.out).mono ?_
 rintro e w2 ⟨rfl,q1,q2⟩
 have HK2:Hid (Kept N (fun k=>k=p) w w2):=HK1.out.trans q2
 have HB2:Hid (BldAt N p (addB x b) w2):=q1
 clear q1 q2
 go_wp2_with fail
 first | go_end0 | refine bodyPost_ret (results_none rfl _ _ _) rfl ?_
 exact ⟨rfl,HB2.out,HK2.out⟩
set_option maxHeartbeats 4000000 in
theorem take_sgn (N p:Nat) (b:Bld) (t:ByteArray) (w:World) (hN:N≤w.heap.size) (h1:t.size=1) (c i:Int) (hc:byteN t 0=c) (hi:signI c=i) (h:(c=43∧i=0)∨(c=45∧i=1)∨(c=42∧i=2)∨(c=47∧i=3)) (k1:b.nodes.length+opsN b.waiting≤200) (k2:b.ready.length≤200) (k3:opsN b.waiting+1≤b.ready.length) (k4:b.waiting.length≤200) (hB:BldAt N p b w) :
  Calls Tryz.prog 143 #[.pointer (some ⟨p,0,none⟩),.string t] w fun e w'=>e=.returned (.tuple #[])∧BldAt N p ⟨(settleB (bindN (3+i)) b).nodes,(settleB (bindN (3+i)) b).ready,(settleB (bindN (3+i)) b).waiting ++ [3+i]⟩ w'∧Kept N (fun k=>k=p) w w':=by
 obtain ⟨i0,hi0,hz0,hz1,hz2⟩:=info_parts Tryz.infoIntF
 have hby:=byteN_get t 0 (by omega)
 rw [hc] at hby
 have h1':0<(t.size:Int):=by omega
 have hix:=signix_any c (by omega) (by omega)
 rw [hi] at hix
 have hbi:=binds_any (3+i)
 have hst:=fun w1 h=>settle_any N p b (bindN (3+i)) w1 h k1 k2 k3 k4
 obtain ⟨q1,q2,q3,q4,q5⟩:=settleB_inv (bindN (3+i)) b k3
 generalize settleB (bindN (3+i)) b=b1 at *
 generalize bindN (3+i)=bn at *
 have HST:Hid (∀ w1,N≤w1.heap.size→BldAt N p b w1→Calls Tryz.prog 155 #[.pointer (some ⟨p,0,none⟩),.int .i64 bn] w1 fun e w'=>e=.returned (.tuple #[])∧BldAt N p b1 w'∧Kept N (fun k=>k=p) w1 w'):=hst
 have HB:Hid (BldAt N p b w):=hB
 obtain ⟨op,hop⟩:∃ op:Int,3+i=op:=⟨_,rfl⟩
 rw [hop] at hbi ⊢
 have hopr:3≤op∧op≤6:=by omega
 clear hst hB hc hi
 rcases h with ⟨rfl,rfl⟩ | ⟨rfl,rfl⟩ | ⟨rfl,rfl⟩ | ⟨rfl,rfl⟩
 all_goals
  simp only [Int.add_zero,Int.reduceAdd] at hop
  subst hop
  go_enter Tryz.func143,Tryz.ntmps143
  go_wp2_with fail
  refine (hix _).mono ?_
  rintro e w1 ⟨rfl,hb1⟩
  go_wp2_with fail
  refine (hbi _).mono ?_
  rintro e w2 ⟨rfl,hb2⟩
  obtain ⟨AN0,cN0,AR0,cR0,AW0,cW0,hV0⟩:=HB.out
  have hN2:N≤w2.heap.size:=Nat.le_trans hN (Nat.le_trans hb1.size hb2.size)
  have HB2:Hid (BldAt N p b w2):=⟨_,_,_,_,_,_,(hV0.later hb1).later hb2⟩
  have HK2:Hid (Kept N (fun k=>k=p) w w2):=(kept_below hb1 hN).trans (kept_below hb2 (Nat.le_trans hN hb1.size))
  clear hV0 hb1 hb2
  go_wp2_with fail
  refine (HST.out w2 hN2 HB2.out).mono ?_
  rintro e w3 ⟨rfl,⟨AN,cN,AR,cR,AW,cW,hV⟩,hK⟩
  have HK3:Hid (Kept N (fun k=>k=p) w w3):=HK2.out.trans hK
  have HV:Hid (BldV N p AN cN AR cR AW cW b1 w3):=hV
  have hN3:N≤w3.heap.size:=Nat.le_trans hN2 hK.size
  have c2:=hV.c2
  have hlt:=hV.lt
  obtain ⟨k,hk⟩:∃ k,b1.waiting.length=k:=⟨_,rfl⟩
  rw [hk] at c2
  have hkm:(k:Int)≤200:=by omega
  have HO:Hid (∀ w',Below w3.heap.size w3 w'→w'.ownsRow N 3 1 (.slice AW k cW) k (mapI b1.waiting)):=fun w' hb=>by have:=(hV.later hb).wai;rw [hk] at this;exact this
  clear hV hK
  go_wp2_with (at_builtin;refine wpList_append_lies _ rfl _ _ 22 rfl N 3 i0 (.int .i64 0) 1 8 Tryz.underlying22 hi0 hz0 hz1 hz2 rfl (by decide) _ _ _ rfl (HO.out _ (by go_grown)) ⟨w3.heap.size,0,none⟩ 1 1 [.int .i64 _] rfl rfl one_cell one_one (by omega) (by unfold maxLen;omega) (by omega) (by simp;omega) (w3.heap.size+1) (by simp) ?_)
  intro g cg w6 hown6 hgrow hat hlt6
  obtain ⟨⟨y1,y2⟩,hP⟩:=HV.out.push hN3 hk (by go_grown) hgrow hown6 (by rcases hat with hat | hat;exact Or.inl hat;exact Or.inr (by simp;omega))
  have HP:=hid_of (HK3.out.trans hP.2)
  have HP1:=hid_of hP.1
  clear hown6 hgrow hat hlt6 hP
  go_wp2_with fail
  first | go_end0 | refine bodyPost_ret (results_none rfl _ _ _) rfl ?_
  exact ⟨rfl,HP1.out,HP.out⟩
end Go.Proofs.YtenlladggdcfnaaGreatDoor
