/-
  What operand and take of package formula do, in whatever memory; who takes the words of a text: a builder, or nobody.
-/
import Derived.Test.YtfldgghobddgkaaGreatDoorShelfF
import Derived.Lib.AtoiErrMem
import Derived.Test.YtfldgghobddgkaaGreatDoorJDAG
import Derived.Test.YtfldgghobddgkaaGreatDoorJDAJ
namespace Go.Proofs.YtfldgghobddgkaaGreatDoor
open Go.ChangeShapes Go.WideShapes Go.ChangeAt Go.RowKit
set_option maxRecDepth 20000
theorem dec_fold:∀ (l:List UInt8) (acc:Nat),(∀ b∈l,48≤b.toNat∧b.toNat≤57)→∃ m:Nat,Lib.decFrom acc l=some m∧l.foldl (fun n c=>n*10+((c.toNat:Int)-48)) (acc:Int)=(m:Int)
 | [],acc,_=>⟨acc,rfl,rfl⟩
 | b :: r,acc,h=>by
  have hb:=h b (List.mem_cons_self ..)
  have hd:Lib.digitVal b=some (b.toNat-48):=by unfold Lib.digitVal;rw [if_pos hb]
  obtain ⟨m,h1,h2⟩:=dec_fold r (acc*10+(b.toNat-48)) (fun c hc=>h c (List.mem_cons_of_mem _ hc))
  refine ⟨m,?_,?_⟩
  ·simp only [Lib.decFrom,hd];exact h1
  ·rw [List.foldl_cons,←h2]
   congr 1
   omega
theorem digits_all {t:ByteArray} (h:∀ i,i<t.size→digB (byteN t i)=true):∀ b∈t.data.toList,48≤b.toNat∧b.toNat≤57:=by
 intro b hb
 obtain ⟨i,hi,rfl⟩:=List.getElem_of_mem hb
 have h1:=h i (by simpa using hi)
 unfold byteN digB at h1
 rw [List.getD,List.getElem?_eq_getElem hi] at h1
 simp only [Option.getD_some,Bool.and_eq_true,decide_eq_true_eq] at h1
 omega
theorem atoi_num {t:ByteArray} (h1:1≤t.size) (h:∀ i,i<t.size→digB (byteN t i)=true):Lib.atoi t.data.toList=some (numW t):=by
 have hall:=digits_all h
 obtain ⟨m,hm,hn⟩:=dec_fold t.data.toList 0 hall
 unfold numW
 have hz:((0:Nat):Int)=0:=rfl
 rw [hz] at hn
 rw [hn]
 have hne:t.data.toList≠[]:=by
  intro e
  have:t.data.toList.length=0:=by rw [e];rfl
  have h2:t.size=t.data.toList.length:=by simp
  omega
 cases hl:t.data.toList with
 | nil=>exact absurd hl hne
 | cons b r =>
  rw [hl] at hall hm
  have hb:=hall b (List.mem_cons_self ..)
  have e1:(b == 45)=false:=by
   apply Bool.eq_false_iff.2;intro e;rw [beq_iff_eq] at e;subst e;revert hb;decide
  have e2:(b == 43)=false:=by
   apply Bool.eq_false_iff.2;intro e;rw [beq_iff_eq] at e;subst e;revert hb;decide
  simp only [Lib.atoi,e1,e2,Bool.false_eq_true,if_false]
  unfold Lib.decNat
  rw [if_neg (by simp),hm]
  rfl
theorem atoin_any (t:ByteArray) (w:World) (h1:1≤t.size) (h7:t.size≤7) (h:∀ i,i<t.size→digB (byteN t i)=true):Calls Tryz.prog 157 #[.string t] w fun e w'=>e=.returned (.tuple #[.int .i64 (numW t),.nilIface])∧Below w.heap.size w w' :=
 (Any.strconv_Atoi Tryz.lays172 t (numW t) (by omega) (atoi_num h1 h) w).mono fun e w' ⟨he,x,hw⟩=>⟨he,by rw [hw];exact Lib.bytesWorld_below _ _ _⟩
theorem ndV_def (x:Nd):ndV x=.agg #[.int .i64 x.op,.int .i64 x.n,.string x.name,.int .i64 x.left,.int .i64 x.right]:=rfl
theorem zero_box {w w1 w2:World} (h1:Below (w.alloc (.cells #[.int .i64 0,.int .i64 0,.string ⟨#[]⟩,.int .i64 0,.int .i64 0] 62)).heap.size (w.alloc (.cells #[.int .i64 0,.int .i64 0,.string ⟨#[]⟩,.int .i64 0,.int .i64 0] 62)) w1) (h2:Below w1.heap.size w1 w2) :
  Below w.heap.size w w2∧(∀ j,w2.frozen? ⟨w.heap.size,j,none⟩=false)∧w2.cell? ⟨w.heap.size,0,none⟩=some (.int .i64 0)∧w2.cell? ⟨w.heap.size,1,none⟩=some (.int .i64 0)∧w2.cell? ⟨w.heap.size,2,none⟩=some (.string ⟨#[]⟩)∧w2.cell? ⟨w.heap.size,3,none⟩=some (.int .i64 0)∧w2.cell? ⟨w.heap.size,4,none⟩=some (.int .i64 0):=by
 have hb:=onB h1 h2
 have hz:w.heap.size<(w.alloc (.cells #[.int .i64 0,.int .i64 0,.string ⟨#[]⟩,.int .i64 0,.int .i64 0] 62)).heap.size:=by simp
 have h:=(hb.block _ hz).trans (heap_alloc_new w _)
 exact ⟨onB (by go_grown) hb,fun j=>by simp [World.frozen?,h],by simp [World.cell?,h],by simp [World.cell?,h],by simp [World.cell?,h],by simp [World.cell?,h],by simp [World.cell?,h]⟩
set_option maxHeartbeats 1000000 in
theorem opnd_any (t:ByteArray) (w:World) (h1:1≤t.size) (h9:t.size≤1000) (h:letB (byteN t 0)=true∨(t.size≤7∧∀ i,i<t.size→digB (byteN t i)=true)):Calls Tryz.prog 141 #[.string t] w fun e w'=>e=.returned (ndV (opndN t))∧Below w.heap.size w w':=by
 have hil:=islet_any (byteN t 0)
 have hby:=byteN_get t 0 (by omega)
 have h1':0<(t.size:Int):=by omega
 by_cases hl:letB (byteN t 0)=true
 ·have hO:opndN t=⟨2,0,t,0,0⟩:=by
   unfold opndN letB at *
   simp at hl
   rw [if_pos (by omega)]
  have hcl:=fun w=>sclone_any t w (by omega)
  rw [hO,ndV_def]
  rw [hl] at hil
  clear h hl hO
  generalize byteN t 0=c at *
  go_enter Tryz.func141,Tryz.ntmps141
  go_wp2_with fail
  refine (hil _).mono ?_
  rintro e w1 ⟨rfl,hb1⟩
  go_wp2_with fail
  refine (hcl _).mono ?_
  rintro e w2 ⟨rfl,hb2⟩
  obtain ⟨hB,hf,z0,z1,z2,z3,z4⟩:=zero_box hb1 hb2
  have HB:Hid (Below w.heap.size w w2):=hB
  have y0:=hf 0
  have y1:=hf 1
  have y2:=hf 2
  have y3:=hf 3
  have y4:=hf 4
  clear hb1 hb2 hB hf
  go_wp2_with fail
  refine bodyPost_ret (v:=.agg #[.int .i64 2,.int .i64 0,.string t,.int .i64 0,.int .i64 0]) (by simp [results,Tryz.results141,go_sem,z0,z1,z2,z3,z4]) rfl ⟨rfl,?_⟩
  exact ((((HB.out.setCell (Nat.le_refl _) _).setCell (Nat.le_refl _) _).setCell (Nat.le_refl _) _).setCell (Nat.le_refl _) _).setCell (Nat.le_refl _) _
 ·have hl':letB (byteN t 0)=false:=by simpa using hl
  obtain ⟨h7,hd⟩:=h.resolve_left hl
  have hO:opndN t=⟨1,numW t,⟨#[]⟩,0,0⟩:=by
   unfold opndN letB at *
   simp at hl
   rw [if_neg (by omega)]
  have hat:=fun w=>atoin_any t w h1 h7 hd
  rw [hO,ndV_def]
  rw [hl'] at hil
  clear h hl hO hd hl'
  generalize byteN t 0=c at *
  generalize numW t=n at *
  go_enter Tryz.func141,Tryz.ntmps141
  go_wp2_with fail
  refine (hil _).mono ?_
  rintro e w1 ⟨rfl,hb1⟩
  go_wp2_with fail
  refine (hat _).mono ?_
  rintro e w2 ⟨rfl,hb2⟩
  obtain ⟨hB,hf,z0,z1,z2,z3,z4⟩:=zero_box hb1 hb2
  have HB:Hid (Below w.heap.size w w2):=hB
  have y0:=hf 0
  have y1:=hf 1
  have y2:=hf 2
  have y3:=hf 3
  have y4:=hf 4
  clear hb1 hb2 hB hf
  go_wp2_with fail
  refine bodyPost_ret (v:=.agg #[.int .i64 1,.int .i64 n,.string ⟨#[]⟩,.int .i64 0,.int .i64 0]) (by simp [results,Tryz.results141,go_sem,z0,z1,z2,z3,z4]) rfl ⟨rfl,?_⟩
  exact ((((HB.out.setCell (Nat.le_refl _) _).setCell (Nat.le_refl _) _).setCell (Nat.le_refl _) _).setCell (Nat.le_refl _) _).setCell (Nat.le_refl _) _
structure FitB (a o:Nat) (ph:Bool) (b:Bld):Prop where
 zero:zerosN b.waiting=o
 ops:opsN b.waiting+(if ph then 1 else 0)≤b.ready.length
 nodes:b.nodes.length+opsN b.waiting≤a
 wait:b.waiting.length≤a
 ready:b.ready.length≤a
theorem BldV.push {N p cN cR cW k g c:Nat} {AN AR AW:Option Addr} {b:Bld} {w W w6:World} {x:Int} (hV:BldV N p AN cN AR cR AW cW b w) (hN:N≤w.heap.size) (hk:b.waiting.length=k) (hb:Below w.heap.size w W) (hg:W.grownBy w6 (Value.slice AW k cW).ownBlock)
  (ho:w6.ownsRow N 3 1 (.slice (some ⟨g,0,none⟩) (k+1) c) (k+1) (mapI b.waiting ++ [.int .i64 x])) (hat:(Value.slice AW k cW).ownBlock=some g∨g=W.heap.size) :
  (w6.cell? ⟨p,2,none⟩=some (.slice AW k cW)∧w6.frozen? ⟨p,2,none⟩=false)∧BldAt N p ⟨b.nodes,b.ready,b.waiting ++ [x]⟩ (w6.setCell ⟨p,2,none⟩ (.slice (some ⟨g,0,none⟩) (k+1) c))∧Kept N (fun k=>k=p) w (w6.setCell ⟨p,2,none⟩ (.slice (some ⟨g,0,none⟩) (k+1) c)):=by
 subst hk
 have h:=hV.reach hb hg (fun g e=>(own_block hV.wai e).1)
 have hh:=h.trans hV.blk
 refine ⟨⟨by simp [World.cell?,hh],by simp [World.frozen?,hh]⟩,?_⟩
 have hL:(b.waiting ++ [x]).length=b.waiting.length+1:=by simp
 have h2:=hV.wait (L:=b.waiting ++ [x]) (g:=g) (c:=c) (w2:=w6) hN hb hg (by rw [hL,mapI_snoc];exact ho) hat
 rw [hL] at h2
 exact ⟨⟨_,_,_,_,_,_,h2.1⟩,h2.2⟩
theorem settle_inv (least:Int):∀ (k:Nat) (b:Bld),b.waiting.length=k→opsN b.waiting+1≤b.ready.length →
  zerosN (settleTo least k b).waiting=zerosN b.waiting∧(settleTo least k b).ready.length+opsN b.waiting=b.ready.length+opsN (settleTo least k b).waiting∧(settleTo least k b).nodes.length+opsN (settleTo least k b).waiting=b.nodes.length+opsN b.waiting∧(settleTo least k b).waiting.length≤b.waiting.length∧opsN (settleTo least k b).waiting≤opsN b.waiting
 | 0,b,_,_=>⟨rfl,rfl,rfl,Nat.le_refl _,Nat.le_refl _⟩
 | k+1,b,hk,hr=>by
  by_cases h:b.waiting.getD k 0=0∨bindN (b.waiting.getD k 0)<least
  ·rw [settle_stop h];exact ⟨rfl,rfl,rfl,Nat.le_refl _,Nat.le_refl _⟩
  ·rw [settle_on h]
   obtain ⟨o1,o2⟩:=ops_last hk
   have hne:b.waiting.getD k 0≠0:=fun e=>h (Or.inl e)
   rw [if_pos hne] at o1
   rw [if_neg hne] at o2
   obtain ⟨l1,l2,l3⟩:=join_len (op:=b.waiting.getD k 0) (b:=⟨b.nodes,b.ready,b.waiting.take k⟩) (by show 2≤b.ready.length;omega)
   have hl:(joinBd (b.waiting.getD k 0) ⟨b.nodes,b.ready,b.waiting.take k⟩).waiting.length=k:=by rw [l3];simp;omega
   simp only at l1 l2 l3
   obtain ⟨q1,q2,q3,q4,q5⟩:=settle_inv least k (joinBd (b.waiting.getD k 0) ⟨b.nodes,b.ready,b.waiting.take k⟩) hl (by rw [l3];omega)
   rw [l3] at q1 q2 q3 q5
   exact ⟨by omega,by omega,by omega,by omega,by omega⟩
theorem settleB_inv (least:Int) (b:Bld) (h:opsN b.waiting+1≤b.ready.length) :
  zerosN (settleB least b).waiting=zerosN b.waiting∧(settleB least b).ready.length+opsN b.waiting=b.ready.length+opsN (settleB least b).waiting∧(settleB least b).nodes.length+opsN (settleB least b).waiting=b.nodes.length+opsN b.waiting∧(settleB least b).waiting.length≤b.waiting.length∧opsN (settleB least b).waiting≤opsN b.waiting:=settle_inv least _ b rfl h
theorem settle_zero:∀ (k:Nat) (b:Bld),b.waiting.length=k→∀ j,(settleTo 0 k b).waiting.length=j+1→(settleTo 0 k b).waiting.getD j 0=0
 | 0,b,hk,j,h=>by rw [settleTo] at h;omega
 | k+1,b,hk,j,h=>by
  by_cases hz:b.waiting.getD k 0=0∨bindN (b.waiting.getD k 0)<0
  ·rw [settle_stop hz] at h ⊢
   have e:j=k:=by omega
   rw [e]
   exact hz.resolve_right (by have:=bindN_ge (b.waiting.getD k 0);omega)
  ·rw [settle_on hz] at h ⊢
   exact settle_zero k _ (by show (b.waiting.take k).length=k;simp;omega) j h
theorem sign_cases {c:Int} (h:0≤signI c):(c=43∧signI c=0)∨(c=45∧signI c=1)∨(c=42∧signI c=2)∨(c=47∧signI c=3):=by
 unfold signI at *
 by_cases h1:c=43
 ·left;exact ⟨h1,by rw [if_pos h1]⟩
 by_cases h2:c=45
 ·right;left;exact ⟨h2,by rw [if_neg h1,if_pos h2]⟩
 by_cases h3:c=42
 ·right;right;left;exact ⟨h3,by rw [if_neg h1,if_neg h2,if_pos h3]⟩
 by_cases h4:c=47
 ·right;right;right;exact ⟨h4,by rw [if_neg h1,if_neg h2,if_neg h3,if_pos h4]⟩
 ·rw [if_neg h1,if_neg h2,if_neg h3,if_neg h4] at h;omega
set_option maxHeartbeats 4000000 in
theorem take_opn (N p:Nat) (b:Bld) (t:ByteArray) (w:World) (hN:N≤w.heap.size) (h1:t.size=1) (h40:byteN t 0=40) (h4:b.waiting.length≤200) (hB:BldAt N p b w) :
  Calls Tryz.prog 120 #[.pointer (some ⟨p,0,none⟩),.string t] w fun e w'=>e=.returned (.tuple #[])∧BldAt N p ⟨b.nodes,b.ready,b.waiting ++ [0]⟩ w'∧Kept N (fun k=>k=p) w w':=by
 obtain ⟨i0,hi0,hz0,hz1,hz2⟩:=info_parts Tryz.infoIntF
 obtain ⟨AN,cN,AR,cR,AW,cW,hV⟩:=hB
 have hby:=byteN_get t 0 (by omega)
 rw [h40] at hby
 have h1':0<(t.size:Int):=by omega
 have c2:=hV.c2
 have hlt:=hV.lt
 obtain ⟨k,hk⟩:∃ k,b.waiting.length=k:=⟨_,rfl⟩
 rw [hk] at c2
 have hkm:(k:Int)≤200:=by omega
 have HO:Hid (∀ w',Below w.heap.size w w'→w'.ownsRow N 3 1 (.slice AW k cW) k (mapI b.waiting)):=fun w' hb=>by have:=(hV.later hb).wai;rw [hk] at this;exact this
 have HV:Hid (BldV N p AN cN AR cR AW cW b w):=hV
 clear hV h40
 go_enter Tryz.func120,Tryz.ntmps120
 go_wp2_with (at_builtin;refine wpList_append_lies _ rfl _ _ 47 rfl N 3 i0 (.int .i64 0) 1 8 Tryz.underlying47 hi0 hz0 hz1 hz2 rfl (by decide) _ _ _ rfl (HO.out _ (by go_grown)) ⟨w.heap.size,0,none⟩ 1 1 [.int .i64 0] rfl rfl one_cell one_one (by omega) (by unfold maxLen;omega) (by omega) (by simp;omega) (w.heap.size+1) (by simp) ?_)
 intro g cg w6 hown6 hgrow hat hlt6
 obtain ⟨⟨y1,y2⟩,hP⟩:=HV.out.push hN hk (by go_grown) hgrow hown6 (by rcases hat with hat | hat;exact Or.inl hat;exact Or.inr (by simp;omega))
 have HP:Hid (BldAt N p ⟨b.nodes,b.ready,b.waiting ++ [0]⟩ (w6.setCell ⟨p,2,none⟩ (.slice (some ⟨g,0,none⟩) (k+1) cg))∧Kept N (fun k=>k=p) w (w6.setCell ⟨p,2,none⟩ (.slice (some ⟨g,0,none⟩) (k+1) cg))):=hP
 clear hown6 hgrow hat hlt6 hP
 go_wp2_with fail
 first | go_end0 | refine bodyPost_ret (results_none rfl _ _ _) rfl ?_
 exact ⟨rfl,HP.out⟩
set_option maxHeartbeats 4000000 in
theorem take_cls (N p:Nat) (b:Bld) (t:ByteArray) (w:World) (hN:N≤w.heap.size) (h1:t.size=1) (h41:byteN t 0=41) (k1:b.nodes.length+opsN b.waiting≤200) (k2:b.ready.length≤200) (k3:opsN b.waiting+1≤b.ready.length) (k4:b.waiting.length≤200) (k5:1≤zerosN b.waiting) (hB:BldAt N p b w) :
  Calls Tryz.prog 120 #[.pointer (some ⟨p,0,none⟩),.string t] w fun e w'=>e=.returned (.tuple #[])∧BldAt N p ⟨(settleB 0 b).nodes,(settleB 0 b).ready,(settleB 0 b).waiting.take ((settleB 0 b).waiting.length-1)⟩ w'∧Kept N (fun k=>k=p) w w':=by
 have hby:=byteN_get t 0 (by omega)
 rw [h41] at hby
 have h1':0<(t.size:Int):=by omega
 have hst:=settle_any N p b 0 w hN k1 k2 k3 k4 hB
 obtain ⟨q1,q2,q3,q4,q5⟩:=settleB_inv 0 b k3
 have hpos:1≤(settleB 0 b).waiting.length:=by have:=zo_len (settleB 0 b).waiting;omega
 generalize settleB 0 b=b1 at *
 obtain ⟨k,hk⟩:∃ k,b1.waiting.length=k+1:=⟨b1.waiting.length-1,by omega⟩
 rw [hk,Nat.add_sub_cancel]
 have hki:(k:Int)≤200:=by omega
 clear h41 hB
 go_enter Tryz.func120,Tryz.ntmps120
 go_wp2_with fail
 refine hst.mono ?_
 rintro e w1 ⟨rfl,⟨AN,cN,AR,cR,AW,cW,hV⟩,hK⟩
 have HV:Hid (BldV N p AN cN AR cR AW cW b1 w1):=hV
 have HK:Hid (Kept N (fun k=>k=p) w w1):=hK
 obtain ⟨g,hA,e0⟩:=own_int (k:=k) hV.wai (by omega)
 subst hA
 have hcap:k+1≤cW:=by
  rcases hV.wai.2 with ⟨h0,_⟩ | ⟨g,cap,cur,h0,_,_,h5,_⟩
  ·cases h0
  ·cases h0;omega
 have hci:(k:Int)+1≤(cW:Int):=by omega
 have c2:=hV.c2
 have cf:=hV.fr 2
 have hlt:=hV.lt
 rw [hk] at c2
 have HC:Hid (∀ w',Below w1.heap.size w1 w'→BldAt N p ⟨b1.nodes,b1.ready,b1.waiting.take k⟩ (w'.setCell ⟨p,2,none⟩ (.slice (some ⟨g,0,none⟩) k cW))∧Kept N (fun k=>k=p) w (w'.setCell ⟨p,2,none⟩ (.slice (some ⟨g,0,none⟩) k cW))):=by
  intro w' hb
  have hN1:N≤w1.heap.size:=Nat.le_trans hN hK.size
  obtain ⟨h4,h5⟩:=(hV.later hb).waitCut (k:=k) (Nat.le_trans hN1 hb.size) (by omega)
  exact ⟨⟨_,_,_,_,_,_,h4⟩,(hK.trans (kept_below hb hN1)).trans h5⟩
 clear hV hK hst
 go_wp2_with fail
 go_region
 all_goals (go_wp2_with fail;first | go_end0 | refine bodyPost_ret (results_none rfl _ _ _) rfl ?_)
 all_goals exact ⟨rfl,HC.out w1.drew (by go_grown)⟩
set_option maxHeartbeats 4000000 in
theorem take_opd (N p:Nat) (b:Bld) (t:ByteArray) (w:World) (hN:N≤w.heap.size) (h1:1≤t.size) (h9:t.size≤1000) (h:letB (byteN t 0)=true∨(t.size≤7∧∀ i,i<t.size→digB (byteN t i)=true)) (k1:b.nodes.length≤200) (k2:b.ready.length≤200) (hB:BldAt N p b w) :
  Calls Tryz.prog 120 #[.pointer (some ⟨p,0,none⟩),.string t] w fun e w'=>e=.returned (.tuple #[])∧BldAt N p (addB (opndN t) b) w'∧Kept N (fun k=>k=p) w w':=by
 have hby:=byteN_get t 0 (by omega)
 have h1':0<(t.size:Int):=by omega
 have hr:48≤byteN t 0:=by
  rcases h with h | ⟨-,h⟩
  ·unfold letB at h;simp at h;omega
  ·have:=h 0 (by omega);unfold digB at this;simp at this;omega
 have hop:=opnd_any t
 have hcc:(byteN t 0 == 40)=false∧(byteN t 0 == 41)=false∧(byteN t 0 == 43)=false∧(byteN t 0 == 45)=false∧(byteN t 0 == 42)=false∧(byteN t 0 == 47)=false:=by
  refine ⟨?_,?_,?_,?_,?_,?_⟩ <;> (apply Bool.eq_false_iff.2;intro e;rw [beq_iff_eq] at e;omega)
 obtain ⟨e1,e2,e3,e4,e5,e6⟩:=hcc
 have HOP:Hid (∀ w,Calls Tryz.prog 141 #[.string t] w fun e w'=>e=.returned (ndV (opndN t))∧Below w.heap.size w w'):=fun w=>opnd_any t w h1 h9 h
 have HB:Hid (BldAt N p b w):=hB
 clear h hB hop
 generalize byteN t 0=c at *
 generalize opndN t=x at *
 go_enter Tryz.func120,Tryz.ntmps120
 go_wp2_with fail
 refine (HOP.out _).mono ?_
 rintro e w1 ⟨rfl,hb1⟩
 obtain ⟨AN,cN,AR,cR,AW,cW,hV⟩:=HB.out
 have HB1:Hid (BldAt N p b w1):=⟨_,_,_,_,_,_,hV.later hb1⟩
 have HK1:Hid (Kept N (fun k=>k=p) w w1):=kept_below hb1 hN
 have hN1:N≤w1.heap.size:=Nat.le_trans hN hb1.size
 clear hV hb1
 go_wp2_with fail
 refine (add_any N p b x w1 hN1 k1 k2 HB1.out).mono ?_
 rintro e w2 ⟨rfl,q1,q2⟩
 have HK2:Hid (Kept N (fun k=>k=p) w w2):=HK1.out.trans q2
 have HB2:Hid (BldAt N p (addB x b) w2):=q1
 clear q1 q2
 go_wp2_with fail
 first | go_end0 | refine bodyPost_ret (results_none rfl _ _ _) rfl ?_
 exact ⟨rfl,HB2.out,HK2.out⟩
set_option maxHeartbeats 4000000 in
theorem take_sgn (N p:Nat) (b:Bld) (t:ByteArray) (w:World) (hN:N≤w.heap.size) (h1:t.size=1) (c i:Int) (hc:byteN t 0=c) (hi:signI c=i) (h:(c=43∧i=0)∨(c=45∧i=1)∨(c=42∧i=2)∨(c=47∧i=3)) (k1:b.nodes.length+opsN b.waiting≤200) (k2:b.ready.length≤200) (k3:opsN b.waiting+1≤b.ready.length) (k4:b.waiting.length≤200) (hB:BldAt N p b w) :
  Calls Tryz.prog 120 #[.pointer (some ⟨p,0,none⟩),.string t] w fun e w'=>e=.returned (.tuple #[])∧BldAt N p ⟨(settleB (bindN (3+i)) b).nodes,(settleB (bindN (3+i)) b).ready,(settleB (bindN (3+i)) b).waiting ++ [3+i]⟩ w'∧Kept N (fun k=>k=p) w w':=by
 obtain ⟨i0,hi0,hz0,hz1,hz2⟩:=info_parts Tryz.infoIntF
 have hby:=byteN_get t 0 (by omega)
 rw [hc] at hby
 have h1':0<(t.size:Int):=by omega
 have hix:=signix_any c (by omega) (by omega)
 rw [hi] at hix
 have hbi:=binds_any (3+i)
 have hst:=fun w1 h=>settle_any N p b (bindN (3+i)) w1 h k1 k2 k3 k4
 obtain ⟨q1,q2,q3,q4,q5⟩:=settleB_inv (bindN (3+i)) b k3
 generalize settleB (bindN (3+i)) b=b1 at *
 generalize bindN (3+i)=bn at *
 have HST:Hid (∀ w1,N≤w1.heap.size→BldAt N p b w1→Calls Tryz.prog 138 #[.pointer (some ⟨p,0,none⟩),.int .i64 bn] w1 fun e w'=>e=.returned (.tuple #[])∧BldAt N p b1 w'∧Kept N (fun k=>k=p) w1 w'):=hst
 have HB:Hid (BldAt N p b w):=hB
 obtain ⟨op,hop⟩:∃ op:Int,3+i=op:=⟨_,rfl⟩
 rw [hop] at hbi ⊢
 have hopr:3≤op∧op≤6:=by omega
 clear hst hB hc hi
 rcases h with ⟨rfl,rfl⟩ | ⟨rfl,rfl⟩ | ⟨rfl,rfl⟩ | ⟨rfl,rfl⟩
 all_goals
  simp only [Int.add_zero,Int.reduceAdd] at hop
  subst hop
  go_enter Tryz.func120,Tryz.ntmps120
  go_wp2_with fail
  refine (hix _).mono ?_
  rintro e w1 ⟨rfl,hb1⟩
  go_wp2_with fail
  refine (hbi _).mono ?_
  rintro e w2 ⟨rfl,hb2⟩
  obtain ⟨AN0,cN0,AR0,cR0,AW0,cW0,hV0⟩:=HB.out
  have hN2:N≤w2.heap.size:=Nat.le_trans hN (Nat.le_trans hb1.size hb2.size)
  have HB2:Hid (BldAt N p b w2):=⟨_,_,_,_,_,_,(hV0.later hb1).later hb2⟩
  have HK2:Hid (Kept N (fun k=>k=p) w w2):=(kept_below hb1 hN).trans (kept_below hb2 (Nat.le_trans hN hb1.size))
  clear hV0 hb1 hb2
  go_wp2_with fail
  refine (HST.out w2 hN2 HB2.out).mono ?_
  rintro e w3 ⟨rfl,⟨AN,cN,AR,cR,AW,cW,hV⟩,hK⟩
  have HK3:Hid (Kept N (fun k=>k=p) w w3):=HK2.out.trans hK
  have HV:Hid (BldV N p AN cN AR cR AW cW b1 w3):=hV
  have hN3:N≤w3.heap.size:=Nat.le_trans hN2 hK.size
  have c2:=hV.c2
  have hlt:=hV.lt
  obtain ⟨k,hk⟩:∃ k,b1.waiting.length=k:=⟨_,rfl⟩
  rw [hk] at c2
  have hkm:(k:Int)≤200:=by omega
  have HO:Hid (∀ w',Below w3.heap.size w3 w'→w'.ownsRow N 3 1 (.slice AW k cW) k (mapI b1.waiting)):=fun w' hb=>by have:=(hV.later hb).wai;rw [hk] at this;exact this
  clear hV hK
  go_wp2_with (at_builtin;refine wpList_append_lies _ rfl _ _ 47 rfl N 3 i0 (.int .i64 0) 1 8 Tryz.underlying47 hi0 hz0 hz1 hz2 rfl (by decide) _ _ _ rfl (HO.out _ (by go_grown)) ⟨w3.heap.size,0,none⟩ 1 1 [.int .i64 _] rfl rfl one_cell one_one (by omega) (by unfold maxLen;omega) (by omega) (by simp;omega) (w3.heap.size+1) (by simp) ?_)
  intro g cg w6 hown6 hgrow hat hlt6
  obtain ⟨⟨y1,y2⟩,hP⟩:=HV.out.push hN3 hk (by go_grown) hgrow hown6 (by rcases hat with hat | hat;exact Or.inl hat;exact Or.inr (by simp;omega))
  have HP:=hid_of (HK3.out.trans hP.2)
  have HP1:=hid_of hP.1
  clear hown6 hgrow hat hlt6 hP
  go_wp2_with fail
  first | go_end0 | refine bodyPost_ret (results_none rfl _ _ _) rfl ?_
  exact ⟨rfl,HP1.out,HP.out⟩
theorem Tryz.infoMemH:(Tryz.prog.info? 43).map (fun i=>(i.zero,i.size,i.bytes))=some (some (.agg #[.string ⟨#[]⟩,.int .i64 0,.int .i64 0,.string ⟨#[]⟩]),4,48):=by kernel_rfl
theorem Tryz.infoDimH:(Tryz.prog.info? 41).map (fun i=>(i.zero,i.size,i.bytes))=some (some (.agg #[.string ⟨#[]⟩,.int .i64 0,.slice none 0 0]),3,48):=by kernel_rfl
def dcV (D:Nat→Dm) (A:Nat→Option Addr) (C:Nat→Nat) (j:Nat):Value:=if j % 3=0 then .string (D (j / 3)).name else if j % 3=1 then .int .i64 (D (j / 3)).solve else .slice (A (j / 3)) (D (j / 3)).n (C (j / 3))
def mcV (M:Nat→Mem) (j:Nat):Value:=if j % 4=0 then .string (M (j / 4)).name else if j % 4=1 then .int .i64 (M (j / 4)).parent else if j % 4=2 then .int .i64 (M (j / 4)).sign else .string (M (j / 4)).formula
def rowF (f:Nat→Value) (n:Nat):List Value:=(List.range n).map f
theorem rowF_len (f:Nat→Value) (n:Nat):(rowF f n).length=n:=by simp [rowF]
theorem rowF_at {f:Nat→Value} {n j:Nat} {u:Value} (h:(rowF f n)[j]?=some u):j<n∧u=f j:=by
 have hj:j<n:=by have:=(List.getElem?_eq_some_iff.1 h).1;rwa [rowF_len] at this
 simp [rowF,List.getElem?_range hj] at h
 exact ⟨hj,h.symm⟩
theorem rowF_get (f:Nat→Value) {n j:Nat} (h:j<n):(rowF f n)[j]?=some (f j):=by simp [rowF,List.getElem?_range h]
theorem dcV_one (D:Nat→Dm) (A:Nat→Option Addr) (C:Nat→Nat) (n:Nat):∀ u∈rowF (dcV D A C) n,u.oneCell'=true:=fun u hu=>by
 unfold rowF at hu
 obtain ⟨j,-,rfl⟩:=List.mem_map.1 hu
 unfold dcV
 split
 ·rfl
 ·split <;> rfl
theorem mcV_one (M:Nat→Mem) (n:Nat):∀ u∈rowF (mcV M) n,u.oneCell'=true:=fun u hu=>by
 unfold rowF at hu
 obtain ⟨j,-,rfl⟩:=List.mem_map.1 hu
 unfold mcV
 split
 ·rfl
 ·split
  ·rfl
  ·split <;> rfl
theorem DimsAt.dc {w:World} {b o n:Nat} {D:Nat→Dm} {A:Nat→Option Addr} {C:Nat→Nat} (h:DimsAt w b o n D A C) {j:Nat} (hj:j<n*3):w.cell? ⟨b,o+j,none⟩=some (dcV D A C j):=by
 obtain ⟨h1,h2,h3,-⟩:=h.2 (j / 3) (by omega)
 unfold dcV
 split
 ·rename_i e;rw [show o+j=o+j / 3*3 by omega];exact h1
 ·split
  ·rename_i e;rw [show o+j=o+j / 3*3+1 by omega];exact h2
  ·rw [show o+j=o+j / 3*3+2 by omega];exact h3
theorem MemsAt.mc {w:World} {b o n:Nat} {M:Nat→Mem} (h:MemsAt w b o n M) {j:Nat} (hj:j<n*4):w.cell? ⟨b,o+j,none⟩=some (mcV M j):=by
 obtain ⟨h1,h2,h3,h4⟩:=h.2 (j / 4) (by omega)
 unfold mcV
 split
 ·rw [show o+j=o+j / 4*4 by omega];exact h1
 ·split
  ·rw [show o+j=o+j / 4*4+1 by omega];exact h2
  ·split
   ·rw [show o+j=o+j / 4*4+2 by omega];exact h3
   ·rw [show o+j=o+j / 4*4+3 by omega];exact h4
theorem set_tyD {w:World} {g k T:Nat} {cs:Array Value} {fr:Nat×Nat} {v:Value} (h:w.heap[g]?=some (.cells cs T fr)):(w.setCell ⟨g,k,none⟩ v).heap[g]?=some (.cells (cs.setIfInBounds k v) T fr):=by
 rw [Sort.setCell_eq]
 unfold Sort.mapBlock
 simp only [Array.getElem?_modify,if_true,h,Option.map_some]
 rfl
theorem ops_snoc (l:List Int) (x:Int):opsN (l ++ [x])=opsN l+(if x≠0 then 1 else 0)∧zerosN (l ++ [x])=zerosN l+(if x=0 then 1 else 0):=by
 unfold opsN zerosN
 rw [List.countP_append,List.countP_append]
 by_cases e:x=0 <;> simp [e]
theorem take_is_opd {b:Bld} {t:ByteArray} (h:48≤byteN t 0):takeB b t=addB (opndN t) b:=by
 have hs : ¬ 0≤signI (byteN t 0):=by
  unfold signI
  rw [if_neg (by omega),if_neg (by omega),if_neg (by omega),if_neg (by omega)]
  omega
 rw [takeB,if_neg (by omega),if_neg (by omega),if_neg hs]
theorem fit_opd {a o n:Nat} {b:Bld} {x:Nd} (hn:1≤n) (hF:FitB a o false b):FitB (a+n) o true (addB x b):=by
 obtain ⟨f1,f2,f3,f4,f5⟩:=hF
 refine ⟨f1,?_,?_,?_,?_⟩
 ·simp [addB] at f2 ⊢;omega
 ·simp [addB];omega
 ·simp [addB];omega
 ·simp [addB];omega
theorem fit_step {a o o':Nat} {ph ph':Bool} {b:Bld} {t:ByteArray} (hS:Stp o ph t o' ph') (hF:FitB a o ph b):FitB (a+t.size) o' ph' (takeB b t):=by
 cases hS with
 | opn o t h1 h40 =>
  obtain ⟨f1,f2,f3,f4,f5⟩:=hF
  have hT:takeB b t=⟨b.nodes,b.ready,b.waiting ++ [0]⟩:=by rw [takeB,if_pos h40]
  rw [hT]
  obtain ⟨s1,s2⟩:=ops_snoc b.waiting 0
  rw [if_neg (by decide)] at s1
  rw [if_pos rfl] at s2
  simp at f2
  refine ⟨?_,?_,?_,?_,?_⟩
  ·show zerosN (b.waiting ++ [0])=_;omega
  ·show opsN (b.waiting ++ [0])+_≤b.ready.length;simp;omega
  ·show b.nodes.length+opsN (b.waiting ++ [0])≤_;omega
  ·show (b.waiting ++ [0]).length≤_;simp;omega
  ·show b.ready.length≤_;omega
 | cls _ t h1 h41 =>
  obtain ⟨f1,f2,f3,f4,f5⟩:=hF
  simp at f2
  have hT:takeB b t=⟨(settleB 0 b).nodes,(settleB 0 b).ready,(settleB 0 b).waiting.take ((settleB 0 b).waiting.length-1)⟩:=by rw [takeB,if_neg (by omega),if_pos h41]
  rw [hT]
  obtain ⟨q1,q2,q3,q4,q5⟩:=settleB_inv 0 b f2
  have hpos:1≤(settleB 0 b).waiting.length:=by have:=zo_len (settleB 0 b).waiting;omega
  obtain ⟨k,hk⟩:∃ k,(settleB 0 b).waiting.length=k+1:=⟨(settleB 0 b).waiting.length-1,by omega⟩
  have hz:(settleB 0 b).waiting.getD k 0=0:=settle_zero _ b rfl k hk
  obtain ⟨o1,o2⟩:=ops_last hk
  rw [hz,if_neg (by decide)] at o1
  rw [hz,if_pos rfl] at o2
  rw [hk,Nat.add_sub_cancel]
  refine ⟨?_,?_,?_,?_,?_⟩
  ·show zerosN ((settleB 0 b).waiting.take k)=_;omega
  ·show opsN ((settleB 0 b).waiting.take k)+_≤(settleB 0 b).ready.length;simp;omega
  ·show (settleB 0 b).nodes.length+opsN ((settleB 0 b).waiting.take k)≤_;omega
  ·show ((settleB 0 b).waiting.take k).length≤_;simp;omega
  ·show (settleB 0 b).ready.length≤_;omega
 | num _ t h1 h7 hd =>
  have h0:=hd 0 (by omega)
  unfold digB at h0
  simp at h0
  rw [take_is_opd (by omega)]
  exact fit_opd h1 hF
 | nam _ t h1 hl =>
  have h0:=hl 0 (by omega)
  unfold letB at h0
  simp at h0
  rw [take_is_opd (by omega)]
  exact fit_opd h1 hF
 | sgn _ t h1 hs =>
  obtain ⟨f1,f2,f3,f4,f5⟩:=hF
  simp at f2
  obtain ⟨i,hi⟩:∃ i,signI (byteN t 0)=i:=⟨_,rfl⟩
  have hc:=sign_cases hs
  have hT:takeB b t=⟨(settleB (bindN (3+i)) b).nodes,(settleB (bindN (3+i)) b).ready,(settleB (bindN (3+i)) b).waiting ++ [3+i]⟩:=by
   rw [takeB,if_neg (by omega),if_neg (by omega),if_pos hs,hi]
  rw [hT]
  obtain ⟨q1,q2,q3,q4,q5⟩:=settleB_inv (bindN (3+i)) b f2
  obtain ⟨s1,s2⟩:=ops_snoc (settleB (bindN (3+i)) b).waiting (3+i)
  rw [if_pos (by omega)] at s1
  rw [if_neg (by omega)] at s2
  generalize settleB (bindN (3+i)) b=b1 at *
  refine ⟨?_,?_,?_,?_,?_⟩
  ·show zerosN (b1.waiting ++ [3+i])=_;omega
  ·show opsN (b1.waiting ++ [3+i])+_≤b1.ready.length;simp;omega
  ·show b1.nodes.length+opsN (b1.waiting ++ [3+i])≤_;omega
  ·show (b1.waiting ++ [3+i]).length≤_;simp;omega
  ·show b1.ready.length≤_;omega
theorem take_any (N p a o o':Nat) (ph ph':Bool) (b:Bld) (t:ByteArray) (w:World) (hN:N≤w.heap.size) (hS:Stp o ph t o' ph') (hF:FitB a o ph b) (ha:a+t.size≤100) (hB:BldAt N p b w) :
  Calls Tryz.prog 120 #[.pointer (some ⟨p,0,none⟩),.string t] w fun e w'=>e=.returned (.tuple #[])∧BldAt N p (takeB b t) w'∧Kept N (fun k=>k=p) w w':=by
 obtain ⟨f1,f2,f3,f4,f5⟩:=hF
 cases hS with
 | opn o t h1 h40 =>
  have hT:takeB b t=⟨b.nodes,b.ready,b.waiting ++ [0]⟩:=by rw [takeB,if_pos h40]
  rw [hT]
  exact take_opn N p b t w hN h1 h40 (by omega) hB
 | cls _ t h1 h41 =>
  simp at f2
  have hT:takeB b t=⟨(settleB 0 b).nodes,(settleB 0 b).ready,(settleB 0 b).waiting.take ((settleB 0 b).waiting.length-1)⟩:=by rw [takeB,if_neg (by omega),if_pos h41]
  rw [hT]
  exact take_cls N p b t w hN h1 h41 (by omega) (by omega) f2 (by omega) (by omega) hB
 | num _ t h1 h7 hd =>
  have h0:=hd 0 (by omega)
  unfold digB at h0
  simp at h0
  rw [take_is_opd (by omega)]
  exact take_opd N p b t w hN h1 (by omega) (Or.inr ⟨h7,hd⟩) (by omega) (by omega) hB
 | nam _ t h1 hl =>
  have h0:=hl 0 (by omega)
  have h0':=h0
  unfold letB at h0
  simp at h0
  rw [take_is_opd (by omega)]
  exact take_opd N p b t w hN h1 (by omega) (Or.inl h0') (by omega) (by omega) hB
 | sgn _ t h1 hs =>
  simp at f2
  obtain ⟨i,hi⟩:∃ i,signI (byteN t 0)=i:=⟨_,rfl⟩
  have hc:=sign_cases hs
  have hT:takeB b t=⟨(settleB (bindN (3+i)) b).nodes,(settleB (bindN (3+i)) b).ready,(settleB (bindN (3+i)) b).waiting ++ [3+i]⟩:=by
   rw [takeB,if_neg (by omega),if_neg (by omega),if_pos hs,hi]
  rw [hT]
  exact take_sgn N p b t w hN h1 (byteN t 0) i rfl hi (by rw [hi] at hc;exact hc) (by omega) (by omega) f2 (by omega) hB
def tkB (N p:Nat):Tkr Bld:=⟨N,p,100,120,#[.pointer (some ⟨p,0,none⟩)],takeB,fun b w=>BldAt N p b w,FitB⟩
theorem tkB_ok (N p:Nat):(tkB N p).Ok:=by
 refine ⟨by show 100≤_;omega,?_,?_,?_,?_⟩
 ·intro args w;show (callFunc 120 args).run Tryz.prog w=_;simp [go_sem,tkB]
 ·rintro q st w w' hq hqp ⟨AN,cN,AR,cR,AW,cW,hV⟩ hg
  refine ⟨_,_,_,_,_,_,hV.stay fun k hk hkp=>hg.block k hk fun e=>?_⟩
  have e':k=q:=by simpa using e
  have hq':q<N:=hq
  have hqp':q≠p:=hqp
  omega
 ·intro a o ph st t o' ph' hS hF _
  exact fit_step hS hF
 ·intro a o ph st t o' ph' w hS hF ha hN hB
  exact take_any N p a o o' ph ph' st t w hN hS hF ha hB
def anyL (p:Int→Bool) (L:List Int):Bool:=L.any p
theorem any_find (p:Int→Bool) (L:List Int):decide (0≤findFrom (fun j=>p (L.getD j 0)) L.length 0)=anyL p L:=by
 unfold anyL
 rcases findFrom_cases (fun j=>p (L.getD j 0)) L.length 0 with ⟨h1,h2⟩ | ⟨m,h1,_,h3,h4,_⟩
 ·rw [h1,decide_eq_false (by omega)]
  symm
  rw [List.any_eq_false]
  intro x hx
  obtain ⟨i,hi,rfl⟩:=List.getElem_of_mem hx
  have:=h2 i (Nat.zero_le _) (by omega)
  simp only [List.getD,List.getElem?_eq_getElem hi,Option.getD_some] at this
  simp [this]
 ·rw [h1,decide_eq_true (by omega)]
  symm
  rw [List.any_eq_true]
  have hm:m<L.length:=by omega
  refine ⟨L[m],List.getElem_mem hm,?_⟩
  simpa only [List.getD,List.getElem?_eq_getElem hm,Option.getD_some] using h4
theorem anyof_any (F:Nat) (cap:Array Value) (p:Int→Bool) (hent:∀ (args:Array Value) (w:World),(callFunc F args).run Tryz.prog w=.ok (.enter F args) w) (A:Option Addr) (c:Nat) (L:List Int) (w:World) (hn:L.length≤200) (hL:IntsAt w A c L)
  (hF:∀ (x:Int) (w':World),Below w.heap.size w w'→Calls Tryz.prog F (#[.int .i64 x] ++ cap) w' fun e w''=>e=.returned (.bool (p x))∧Below w'.heap.size w' w'') :
  Calls Tryz.prog 145 #[.slice A L.length c,.func (.func F) #[] cap] w fun e w'=>e=.returned (.bool (anyL p L))∧Below w.heap.size w w':=by
 have h2:=contm_pl F cap p hent A c L w (by omega) (pl_ints hL) fun x w' _=>hF x w'
 rw [←any_find]
 generalize findFrom (fun j=>p (L.getD j 0)) L.length 0=r at *
 clear hF hL
 go_enter Tryz.func145,Tryz.ntmps145
 go_wp2_with fail
 refine h2.mono ?_
 rintro e w1 ⟨rfl,hb1⟩
 go_wp2_with fail
 go_ret
 exact ⟨rfl,hb1⟩
def outI (i:Nat) (k:Int):Bool:=decide (k<0) || decide ((i:Int)≤k)
theorem node1_any (i q:Nat) (k:Int) (w:World) (h:w.cell? ⟨q,0,none⟩=some (.int .i64 i)):Calls Tryz.prog 161 #[.int .i64 k,.pointer (some ⟨q,0,none⟩)] w fun e w'=>e=.returned (.bool (outI i k))∧Below w.heap.size w w':=by
 unfold outI
 by_cases h1:k<0
 ·go_enter Tryz.func161,Tryz.ntmps161
  go_wp2
  go_ret
  exact ⟨by simp <;> omega,by go_grown⟩
 ·go_enter Tryz.func161,Tryz.ntmps161
  go_wp2
  go_ret
  exact ⟨by simp <;> omega,by go_grown⟩
theorem fcheck1_any (k:Int) (w:World):Calls Tryz.prog 147 #[.int .i64 k] w fun e w'=>e=.returned (.bool (decide (k≠1)))∧Below w.heap.size w w':=by
 go_enter Tryz.func147,Tryz.ntmps147
 go_wp2
 go_ret
 exact ⟨by by_cases h:k=1 <;> simp [h],by go_grown⟩
theorem toL_nil (t:ByteArray):t.toList=[]↔t.size=0:=by
 have h:=empty_same (s:=t)
 rw [←List.isEmpty_iff,h,decide_eq_true_eq]
section
variable {n op:Int} {nm:ByteArray} {l r:Int} {i:Nat}
theorem nd1 (h1:0≤n) (h2:n≤1000000):ndErr ⟨1,n,nm,l,r⟩ i=if nm.toList=[]∧l=0∧r=0 then 0 else 3:=by
 simp only [ndErr,toL_nil]
 rw [if_neg (by omega),if_pos trivial,if_neg (by omega)]
 by_cases h:nm.size=0∧l=0∧r=0
 ·rw [if_pos h,if_neg (by omega)]
 ·rw [if_neg h,if_pos (by omega)]
theorem nd2 (h:nameErr nm=0):ndErr ⟨2,n,nm,l,r⟩ i=if n=0∧l=0∧r=0 then 0 else 3:=by
 simp only [ndErr]
 rw [if_neg (by omega),if_neg (by omega),if_pos trivial,if_neg (by simpa using h)]
 by_cases h:n=0∧l=0∧r=0
 ·rw [if_pos h,if_neg (by omega)]
 ·rw [if_neg h,if_pos (by omega)]
theorem nd3 (h0:3≤op) (h1:op≤6) (h2:anyL (outI i) [l,r]=false):ndErr ⟨op,n,nm,l,r⟩ i=if n=0∧nm.toList=[] then 0 else 3:=by
 simp [anyL,outI] at h2
 simp only [ndErr,toL_nil]
 rw [if_neg (by omega),if_neg (by omega),if_neg (by omega),if_neg (by omega)]
 by_cases h:n=0∧nm.size=0
 ·rw [if_pos h,if_neg (by omega)]
 ·rw [if_neg h,if_pos (by omega)]
theorem nd3b (h0:3≤op) (h1:op≤6) (h2:anyL (outI i) [l,r]=true):ndErr ⟨op,n,nm,l,r⟩ i=1:=by
 simp [anyL,outI] at h2
 simp only [ndErr]
 rw [if_neg (by omega),if_neg (by omega),if_neg (by omega),if_pos (by omega)]
end
def nodeW (w:World) (op n:Int) (nm:ByteArray) (l r:Int) (i:Nat):World:=((w.alloc (.cells #[.int .i64 op,.int .i64 n,.string nm,.int .i64 l,.int .i64 r] 62)).alloc (.cells #[.int .i64 i] 3)).alloc (.cells #[.int .i64 op,.int .i64 0,.string ⟨#[]⟩,.int .i64 0,.int .i64 0] 62)
theorem nodeW_size (w:World) (op n:Int) (nm:ByteArray) (l r:Int) (i:Nat):(nodeW w op n nm l r i).heap.size=w.heap.size+3:=by unfold nodeW;simp
theorem nodeW_below (w:World) (op n:Int) (nm:ByteArray) (l r:Int) (i:Nat):Below w.heap.size w (nodeW w op n nm l r i):=by unfold nodeW;go_grown
theorem nodeW_at (w:World) (op n:Int) (nm:ByteArray) (l r:Int) (i:Nat):(nodeW w op n nm l r i).heap[w.heap.size]?=some (.cells #[.int .i64 op,.int .i64 n,.string nm,.int .i64 l,.int .i64 r] 62 (0,0))∧(nodeW w op n nm l r i).heap[w.heap.size+1]?=some (.cells #[.int .i64 i] 3 (0,0))∧(nodeW w op n nm l r i).heap[w.heap.size+1+1]?=some (.cells #[.int .i64 op,.int .i64 0,.string ⟨#[]⟩,.int .i64 0,.int .i64 0] 62 (0,0)):=by
 unfold nodeW
 refine ⟨?_,?_,?_⟩
 ·rw [heap_alloc_old _ _ (by simp;omega)];exact topF0 w _ _
 ·rw [heap_alloc_old _ _ (by simp)];exact topF1 w _ _
 ·have h:=heap_alloc_new ((w.alloc (.cells #[.int .i64 op,.int .i64 n,.string nm,.int .i64 l,.int .i64 r] 62)).alloc (.cells #[.int .i64 i] 3)) (.cells #[.int .i64 op,.int .i64 0,.string ⟨#[]⟩,.int .i64 0,.int .i64 0] 62)
  simpa using h
theorem nodeW_cells {w w1:World} {op n:Int} {nm:ByteArray} {l r:Int} {i:Nat} (hb:Below (nodeW w op n nm l r i).heap.size (nodeW w op n nm l r i) w1) :
  Below w.heap.size w w1∧(w1.cell? ⟨w.heap.size,0,none⟩=some (.int .i64 op)∧w1.cell? ⟨w.heap.size,1,none⟩=some (.int .i64 n)∧w1.cell? ⟨w.heap.size,2,none⟩=some (.string nm)∧w1.cell? ⟨w.heap.size,3,none⟩=some (.int .i64 l)∧w1.cell? ⟨w.heap.size,4,none⟩=some (.int .i64 r))∧w1.cell? ⟨w.heap.size+1,0,none⟩=some (.int .i64 i) ∧
  (w1.cell? ⟨w.heap.size+1+1,0,none⟩=some (.int .i64 op)∧w1.cell? ⟨w.heap.size+1+1,1,none⟩=some (.int .i64 0)∧w1.cell? ⟨w.heap.size+1+1,2,none⟩=some (.string ⟨#[]⟩)∧w1.cell? ⟨w.heap.size+1+1,3,none⟩=some (.int .i64 0)∧w1.cell? ⟨w.heap.size+1+1,4,none⟩=some (.int .i64 0))∧∀ j,w1.frozen? ⟨w.heap.size+1+1,j,none⟩=false:=by
 obtain ⟨a1,a2,a3⟩:=nodeW_at w op n nm l r i
 have hz:=nodeW_size w op n nm l r i
 have b1:=(hb.block w.heap.size (by omega)).trans a1
 have b2:=(hb.block (w.heap.size+1) (by omega)).trans a2
 have b3:=(hb.block (w.heap.size+1+1) (by omega)).trans a3
 refine ⟨onB (nodeW_below ..) hb,⟨?_,?_,?_,?_,?_⟩,?_,⟨?_,?_,?_,?_,?_⟩,fun j=>?_⟩ <;> simp [World.cell?,World.frozen?,b1,b2,b3]
set_option maxHeartbeats 1000000 in
theorem node_num (x:Nd) (i:Nat) (w:World) (h1:x.op=1):Calls Tryz.prog 144 #[ndV x,.int .i64 i] w fun e w'=>e=.returned (errV (ndErr x i))∧Below w.heap.size w w':=by
 obtain ⟨op,n,name,left,right⟩:=x
 simp only at h1
 subst h1
 rw [ndV_def]
 by_cases hn:n<0
 ·have hE:ndErr ⟨1,n,name,left,right⟩ i=1:=by simp [ndErr,hn]
  rw [hE,errV_some (by decide)]
  go_enter Tryz.func144,Tryz.ntmps144
  go_wp2
  go_ret
  exact ⟨rfl,by go_grown⟩
 by_cases hn2:1000000<n
 ·have hE:ndErr ⟨1,n,name,left,right⟩ i=1:=by simp [ndErr,hn2]
  rw [hE,errV_some (by decide)]
  go_enter Tryz.func144,Tryz.ntmps144
  go_wp2
  go_ret
  exact ⟨rfl,by go_grown⟩
 ·rw [nd1 (by omega) (by omega)]
  go_enter Tryz.func144,Tryz.ntmps144
  go_wp2
  all_goals (go_ret;refine ⟨?_,by go_grown⟩;first | rfl | (rw [if_pos (by simp_all)];rfl) | (rw [if_neg (by simp_all)];rfl) | (exfalso;simp_all;done))
set_option maxHeartbeats 1000000 in
theorem node_ref (x:Nd) (i:Nat) (w:World) (h1:x.op=2):Calls Tryz.prog 144 #[ndV x,.int .i64 i] w fun e w'=>e=.returned (errV (ndErr x i))∧Below w.heap.size w w':=by
 obtain ⟨op,n,name,left,right⟩:=x
 simp only at h1
 subst h1
 rw [ndV_def]
 have hnm:=name_any name
 by_cases hE:nameErr name=0
 ·rw [nd2 hE]
  rw [hE,errV_zero] at hnm
  clear hE
  go_enter Tryz.func144,Tryz.ntmps144
  go_wp2_with fail
  refine (hnm _).mono ?_
  rintro e w1 ⟨rfl,hb1⟩
  obtain ⟨hB,⟨x0,x1,x2,x3,x4⟩,-,⟨z0,z1,z2,z3,z4⟩,hf⟩:=nodeW_cells (w:=w) (op:=2) (n:=n) (nm:=name) (l:=left) (r:=right) (i:=i) hb1
  have y2:=hf 2
  have HB:Hid (Below w.heap.size w w1):=hB
  clear hb1 hB hf
  go_wp2_with fail
  all_goals (go_ret;refine ⟨?_,HB.out.setCell (by simp;omega) _⟩;first | rfl | (rw [if_pos (by simp_all)];rfl) | (rw [if_neg (by simp_all)];rfl) | (exfalso;simp_all;done))
 ·have h2:nameErr name=2:=nameErr_two hE
  have hN:ndErr ⟨2,n,name,left,right⟩ i=2:=by
   simp only [ndErr]
   rw [if_neg (by omega),if_neg (by omega),if_pos trivial,if_pos (by omega)]
  rw [hN,errV_some (by decide)]
  rw [h2,errV_some (by decide)] at hnm
  clear hE h2 hN
  go_enter Tryz.func144,Tryz.ntmps144
  go_wp2_with fail
  refine (hnm _).mono ?_
  rintro e w1 ⟨rfl,hb1⟩
  have hB:Below w.heap.size w w1:=onB (by go_grown) hb1
  clear hb1
  go_wp2_with fail
  go_ret
  exact ⟨rfl,hB⟩
theorem ent_node1 (args:Array Value) (w:World):(callFunc 161 args).run Tryz.prog w=.ok (.enter 161 args) w:=by simp [go_sem]
theorem ent_check1 (args:Array Value) (w:World):(callFunc 147 args).run Tryz.prog w=.ok (.enter 147 args) w:=by simp [go_sem]
theorem sides_any (w:World) (op n:Int) (nm:ByteArray) (l r:Int) (i:Nat):Calls Tryz.prog 145 #[.slice (some ⟨w.heap.size+1+1+1,0,none⟩) 2 2,.func (.func 161) #[] #[.pointer (some ⟨w.heap.size+1,0,none⟩)]] ((nodeW w op n nm l r i).alloc (.cells #[.int .i64 l,.int .i64 r] 3)) fun e w'=>e=.returned (.bool (anyL (outI i) [l,r]))∧Below ((nodeW w op n nm l r i).alloc (.cells #[.int .i64 l,.int .i64 r] 3)).heap.size ((nodeW w op n nm l r i).alloc (.cells #[.int .i64 l,.int .i64 r] 3)) w':=by
 have hz:=nodeW_size w op n nm l r i
 have hnew:=heap_alloc_new (nodeW w op n nm l r i) (.cells #[.int .i64 l,.int .i64 r] 3)
 rw [hz] at hnew
 refine anyof_any 161 #[.pointer (some ⟨w.heap.size+1,0,none⟩)] (outI i) ent_node1 (some ⟨w.heap.size+1+1+1,0,none⟩) 2 [l,r] _ (by simp) ⟨by simp,Or.inr ⟨_,rfl,by simp [hz],?_⟩⟩ ?_
 ·intro j hj
  match j,hj with
  | 0,_=>simp [World.cell?,hnew]
  | 1,_=>simp [World.cell?,hnew]
 ·intro x w' hb
  have h2:=(nodeW_at w op n nm l r i).2.1
  have h3:w'.heap[w.heap.size+1]?=some (.cells #[.int .i64 i] 3 (0,0)):=by
   rw [hb.block _ (by simp [hz]),heap_alloc_old _ _ (by rw [hz];omega)]
   exact h2
  exact node1_any i (w.heap.size+1) x w' (by simp [World.cell?,h3])
set_option maxHeartbeats 2000000 in
theorem node_op (x:Nd) (i:Nat) (w:World) (h1:3≤x.op) (h2:x.op≤6):Calls Tryz.prog 144 #[ndV x,.int .i64 i] w fun e w'=>e=.returned (errV (ndErr x i))∧Below w.heap.size w w':=by
 obtain ⟨op,n,name,left,right⟩:=x
 simp only at h1 h2
 rw [ndV_def]
 have hsd:=sides_any w op n name left right i
 have hmf:∀ (fn:Fn) (first cap:Array Value) (w:World),(Instr.makeFunc fn first cap).run Tryz.prog w=.ok (.func fn first cap) w:=fun _ _ _ _=>rfl
 have HW:Hid (Below (nodeW w op n name left right i).heap.size (nodeW w op n name left right i) ((nodeW w op n name left right i).alloc (.cells #[.int .i64 left,.int .i64 right] 3))):=(Below.refl _ _).alloc (Nat.le_refl _) _
 have hc:op=3∨op=4∨op=5∨op=6:=by omega
 cases ha:anyL (outI i) [left,right]
 ·rw [nd3 h1 h2 ha]
  rw [ha] at hsd
  clear ha
  unfold nodeW at hsd
  rcases hc with rfl | rfl | rfl | rfl
  all_goals
   go_enter Tryz.func144,Tryz.ntmps144
   go_wp2_with fail
   refine hsd.mono ?_
   rintro e w1 ⟨rfl,hb1⟩
   obtain ⟨hB,⟨x0,x1,x2,x3,x4⟩,-,⟨z0,z1,z2,z3,z4⟩,hf⟩:=nodeW_cells (onB HW.out hb1)
   have y3:=hf 3
   have y4:=hf 4
   have HB:Hid (Below w.heap.size w w1):=hB
   clear hb1 hB hf hsd
   go_wp2_with fail
   go_region
   all_goals go_wp2_with fail
   all_goals (go_ret;refine ⟨?_,by first | exact ((HB.out.setCell (by simp;omega) _).setCell (by simp;omega) _).drew | exact ((HB.out.drew.setCell (by simp;omega) _).setCell (by simp;omega) _)⟩;first | rfl | (rw [if_pos (by simp_all)];rfl) | (rw [if_neg (by simp_all)];rfl) | (exfalso;simp_all;done))
 ·rw [nd3b h1 h2 ha,errV_some (by decide)]
  rw [ha] at hsd
  clear ha
  unfold nodeW at hsd
  rcases hc with rfl | rfl | rfl | rfl
  all_goals
   go_enter Tryz.func144,Tryz.ntmps144
   go_wp2_with fail
   refine hsd.mono ?_
   rintro e w1 ⟨rfl,hb1⟩
   have HB:Hid (Below w.heap.size w w1):=onB (by go_grown) hb1
   clear hb1 hsd
   go_wp2_with fail
   go_ret
   exact ⟨rfl,HB.out⟩
set_option maxHeartbeats 1000000 in
theorem node_bad (x:Nd) (i:Nat) (w:World) (h1:x.op<1∨6<x.op):Calls Tryz.prog 144 #[ndV x,.int .i64 i] w fun e w'=>e=.returned (errV (ndErr x i))∧Below w.heap.size w w':=by
 have hE:ndErr x i=1:=by unfold ndErr;rw [if_pos h1]
 rw [hE,errV_some (by decide)]
 obtain ⟨op,n,name,left,right⟩:=x
 simp only at h1
 rw [ndV_def]
 have e1:(op == 1)=false:=by apply Bool.eq_false_iff.2;intro e;rw [beq_iff_eq] at e;omega
 have e2:(op == 2)=false:=by apply Bool.eq_false_iff.2;intro e;rw [beq_iff_eq] at e;omega
 have e3:(op == 3)=false:=by apply Bool.eq_false_iff.2;intro e;rw [beq_iff_eq] at e;omega
 have e4:(op == 4)=false:=by apply Bool.eq_false_iff.2;intro e;rw [beq_iff_eq] at e;omega
 have e5:(op == 5)=false:=by apply Bool.eq_false_iff.2;intro e;rw [beq_iff_eq] at e;omega
 have e6:(op == 6)=false:=by apply Bool.eq_false_iff.2;intro e;rw [beq_iff_eq] at e;omega
 clear h1 hE
 go_enter Tryz.func144,Tryz.ntmps144
 go_wp2_with fail
 go_ret
 exact ⟨rfl,by go_grown⟩
theorem node_any (x:Nd) (i:Nat) (w:World):Calls Tryz.prog 144 #[ndV x,.int .i64 i] w fun e w'=>e=.returned (errV (ndErr x i))∧Below w.heap.size w w':=by
 by_cases h1:x.op=1
 ·exact node_num x i w h1
 by_cases h2:x.op=2
 ·exact node_ref x i w h2
 by_cases h3:3≤x.op∧x.op≤6
 ·exact node_op x i w h3.1 h3.2
 ·exact node_bad x i w (by omega)
end Go.Proofs.YtfldgghobddgkaaGreatDoor
namespace Go.Proofs.YtfldgghobddgkaaGreatDoor
open Go.ChangeShapes Go.WideShapes Go.ChangeAt Go.RowKit
theorem dig_fin:∀ p:Fin 10,(ByteArray.mk #[48,49,50,51,52,53,54,55,56,57]).extract p.val (p.val+1)=⟨#[UInt8.ofNat (48+p.val)]⟩:=by decide +kernel
theorem dig_piece (d:Nat) (h:d<10):(ByteArray.mk #[48,49,50,51,52,53,54,55,56,57]).extract d (d+1)=⟨#[UInt8.ofNat (48+d)]⟩:=dig_fin ⟨d,h⟩
theorem digits_one (u:Nat) (h:u<10) (w:World):Calls Tryz.prog 33 #[.int .i64 u] w fun e w'=>e=.returned (.string ⟨(Lib.decDigits u).toArray⟩)∧w'=w:=by
 have h1:(u:Int)<10:=by omega
 go_enter Tryz.func33,Tryz.ntmps33
 go_wp2
 go_ret
 exact ⟨by rw [dig_piece u h,Lib.decDigits_one h];rfl,rfl⟩
theorem digits_more (u:Nat) (h:10≤u) (hu:u≤1000000000000) (w:World) (ih:∀ w:World,Calls Tryz.prog 33 #[.int .i64 ((u / 10:Nat):Int)] w fun e w'=>e=.returned (.string ⟨(Lib.decDigits (u / 10)).toArray⟩)∧w'=w):Calls Tryz.prog 33 #[.int .i64 u] w fun e w'=>e=.returned (.string ⟨(Lib.decDigits u).toArray⟩)∧w'=w:=by
 have h1:(10:Int)≤u:=by omega
 have h2:(u:Int)≤1000000000000:=by omega
 have ih':∀ w:World,Calls Tryz.prog 33 #[.int .i64 ((u:Int) / 10)] w fun e w'=>e=.returned (.string ⟨(Lib.decDigits (u / 10)).toArray⟩)∧w'=w:=by
  rw [show ((u:Int) / 10)=((u / 10:Nat):Int) from by omega]
  exact ih
 have hsz:(Lib.decDigits (u / 10)).length≤15:=nDigits_le _ 15 (by omega) (by omega)
 have hfin:(ByteArray.mk (Lib.decDigits (u / 10)).toArray) ++ (ByteArray.mk #[UInt8.ofNat (48+u % 10)])=⟨(Lib.decDigits u).toArray⟩:=by
  rw [Lib.decDigits.eq_1 u,dif_neg (by omega)]
  apply ByteArray.ext
  simp
 have HF:Hid ((ByteArray.mk (Lib.decDigits (u / 10)).toArray) ++ (ByteArray.mk #[UInt8.ofNat (48+u % 10)])=⟨(Lib.decDigits u).toArray⟩):=hfin
 have hs1:(ByteArray.mk (Lib.decDigits (u / 10)).toArray).size≤15:=by
  show (Lib.decDigits (u / 10)).toArray.size≤15
  simpa using hsz
 clear hfin ih hsz
 generalize ByteArray.mk (Lib.decDigits (u / 10)).toArray=s0 at ih' HF hs1
 generalize ByteArray.mk (Lib.decDigits u).toArray=s1 at HF ⊢
 obtain ⟨d,hd0⟩:∃ d:Nat,u % 10=d:=⟨_,rfl⟩
 have hd:(u:Int) % 10=(d:Int):=by omega
 have hd1:(d:Int)<10:=by omega
 have hd2:d<10:=by omega
 rw [hd0] at HF
 go_enter Tryz.func33,Tryz.ntmps33
 go_wp2_with fail
 refine (ih' _).mono ?_
 rintro e w1 ⟨rfl,rfl⟩
 go_wp2_with fail
 go_ret
 exact ⟨by rw [dig_piece d hd2,HF.out];rfl,rfl⟩
theorem digits_nat (u:Nat) (hu:u≤1000000000000):∀ w:World,Calls Tryz.prog 33 #[.int .i64 u] w fun e w'=>e=.returned (.string ⟨(Lib.decDigits u).toArray⟩)∧w'=w:=by
 induction u using Nat.strongRecOn with
 | _ u ih =>
  intro w
  by_cases h:u<10
  ·exact digits_one u h w
  ·exact digits_more u (by omega) hu w (ih (u / 10) (by omega) (by omega))
theorem digits_any (n:Int) (h1 : -1000000000000≤n) (h2:n≤1000000000000) (w:World):Calls Tryz.prog 33 #[.int .i64 n] w fun e w'=>e=.returned (.string ⟨(Lib.itoa n).toArray⟩)∧w'=w:=by
 unfold Lib.itoa
 by_cases h:n<0
 ·rw [if_pos h]
  have hd:=digits_nat n.natAbs (by omega)
  rw [show ((n.natAbs:Nat):Int) = -n from by omega] at hd
  have hsz:(Lib.decDigits n.natAbs).length≤15:=nDigits_le _ 15 (by omega) (by omega)
  have hfin:(ByteArray.mk #[45]) ++ (ByteArray.mk (Lib.decDigits n.natAbs).toArray)=⟨(45 :: Lib.decDigits n.natAbs).toArray⟩:=by
   apply ByteArray.ext
   simp
  have HF:Hid ((ByteArray.mk #[45]) ++ (ByteArray.mk (Lib.decDigits n.natAbs).toArray)=⟨(45 :: Lib.decDigits n.natAbs).toArray⟩):=hfin
  have hs1:(ByteArray.mk (Lib.decDigits n.natAbs).toArray).size≤15:=by
   show (Lib.decDigits n.natAbs).toArray.size≤15
   simpa using hsz
  clear hfin hsz
  generalize ByteArray.mk (Lib.decDigits n.natAbs).toArray=s0 at hd HF hs1
  generalize ByteArray.mk (45 :: Lib.decDigits n.natAbs).toArray=s1 at HF ⊢
  go_enter Tryz.func33,Tryz.ntmps33
  go_wp2_with fail
  refine (hd _).mono ?_
  rintro e w1 ⟨rfl,rfl⟩
  go_wp2_with fail
  go_ret
  exact ⟨by rw [HF.out];rfl,rfl⟩
 ·rw [if_neg h]
  obtain ⟨u,rfl⟩:∃ u:Nat,n=(u:Int):=⟨n.toNat,by omega⟩
  exact digits_nat u (by omega) w
end Go.Proofs.YtfldgghobddgkaaGreatDoor
