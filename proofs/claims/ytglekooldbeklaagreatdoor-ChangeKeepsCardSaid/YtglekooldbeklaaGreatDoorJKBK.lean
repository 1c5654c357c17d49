/-
  What Value of package reckon answers, called in whatever memory.
-/
import Derived.Test.YtglekooldbeklaaGreatDoorShelfH
import Derived.Test.YtglekooldbeklaaGreatDoorJKBE
import Derived.Test.YtglekooldbeklaaGreatDoorJKBI
namespace Go.Proofs.YtglekooldbeklaaGreatDoor
open Go.ChangeShapes Go.WideShapes Go.ChangeAt Go.RowKit
set_option maxRecDepth 20000
theorem ent_value1 (args:Array Value) (w:World):(callFunc 114 args).run Tryz.prog w=.ok (.enter 114 args) w:=by simp [go_sem]
theorem val_form {l:List Nd} {N:List ByteArray} {C:List (Int×Int)} (h:formErr l≠0):valE l N C=formErr l∧valC l N C=noC:=by
 have e:valE l N C=formErr l:=by unfold valE;rw [if_pos h]
 exact ⟨e,by unfold valC;rw [e,if_neg h]⟩
theorem val_ck {l:List Nd} {N:List ByteArray} {C:List (Int×Int)} (h:formErr l=0) (h1:ckErr N C≠0):valE l N C=ckErr N C∧valC l N C=noC:=by
 have e:valE l N C=ckErr N C:=by unfold valE;rw [if_neg (by simpa using h),if_pos h1]
 exact ⟨e,by unfold valC;rw [e,if_neg h1]⟩
theorem val_all {l:List Nd} {N:List ByteArray} {C:List (Int×Int)} (h:formErr l=0) (h1:ckErr N C=0):valE l N C=(if missT N (treeOf l (l.length-1))=true then 5 else 0)∧valC l N C=(if missT N (treeOf l (l.length-1))=true then noC else valT N C (treeOf l (l.length-1))):=by
 have e:valE l N C=(if missT N (treeOf l (l.length-1))=true then 5 else 0):=by unfold valE;rw [if_neg (by simpa using h),if_neg (by simpa using h1)]
 refine ⟨e,?_⟩
 unfold valC
 rw [e]
 cases missT N (treeOf l (l.length-1))
 ·rfl
 ·rfl
set_option maxHeartbeats 4000000 in
theorem value_any (A:Option Addr) (cap:Nat) (l:List Nd) (An:Option Addr) (cn:Nat) (N:List ByteArray) (Ac:Option Addr) (cc:Nat) (C:List (Int×Int)) (w:World) (hL:NdsV w A cap l) (hN:NmV w An cn N) (hC:CelV w Ac cc C) :
  Calls Tryz.prog 81 #[.slice A l.length cap,.slice An N.length cn,.slice Ac C.length cc] w fun e w'=>e=.returned (.tuple #[.agg #[.int .i64 (valC l N C).1,.int .i64 (valC l N C).2],errV (valE l N C)])∧Below w.heap.size w w':=by
 have hck:=fun w' (hb:Below w.heap.size w w')=>fchk_any A cap l w' (hL.later hb)
 by_cases h0:formErr l=0
 case neg =>
  obtain ⟨e1,e2⟩:=val_form (N:=N) (C:=C) h0
  rw [e1,e2]
  rw [errV_some h0] at hck ⊢
  unfold noC
  clear h0 e1 e2 hL hN hC
  go_enter Tryz.func81,Tryz.ntmps81
  go_wp2_with fail
  refine (hck _ (by go_grown)).mono ?_
  rintro e w1 ⟨rfl,hb1⟩
  have HB1:Hid (Below w.heap.size w w1):=onB (by go_grown) hb1
  obtain ⟨hbc,hbf⟩:=bcell hb1
  have hz:=bsize hb1
  simp at hz
  clear hb1 hck
  go_wp2_with fail
  refine bodyPost_ret (v:=.tuple #[.agg #[.int .i64 0,.int .i64 0],.iface 58 (.int .i64 (formErr l))]) (by simp [results,Tryz.results81,go_sem,hbc]) rfl ⟨rfl,?_⟩
  exact (HB1.out.setCell (by simp;omega) _).setCell (by simp;omega) _
 rw [h0,errV_zero] at hck
 have hrk:=fun w' (hb:Below w.heap.size w w')=>rkcheck_any An cn N Ac cc C w' (hN.later hb) (hC.later hb)
 obtain ⟨W,hW⟩:∃ W,((w.alloc (.cells #[.slice An N.length cn] 110)).alloc (.cells #[.slice Ac C.length cc] 37)).alloc (.cells #[.int .i64 0,.int .i64 0] 48)=W:=⟨_,rfl⟩
 have hBW:Below w.heap.size w W:=by rw [←hW];go_grown
 have w0:W.heap[w.heap.size]?=some (.cells #[.slice An N.length cn] 110 (0,0)):=by rw [←hW,heap_alloc_old _ _ (by simp;omega),topF0]
 have w1:W.heap[w.heap.size+1]?=some (.cells #[.slice Ac C.length cc] 37 (0,0)):=by rw [←hW,heap_alloc_old _ _ (by simp),topF1]
 have q0:W.cell? ⟨w.heap.size,0,none⟩=some (.slice An N.length cn):=by simp [World.cell?,w0]
 have q1:W.cell? ⟨w.heap.size+1,0,none⟩=some (.slice Ac C.length cc):=by simp [World.cell?,w1]
 have hsW:W.heap.size=w.heap.size+3:=by rw [←hW];simp
 have HBW:Hid (Below w.heap.size w W):=hBW
 have HSW:Hid (W.heap.size=w.heap.size+3):=hsW
 have hres:W.heap[w.heap.size+1+1]?=some (.cells #[.int .i64 0,.int .i64 0] 48 (0,0)):=by
  have h:=heap_alloc_new ((w.alloc (.cells #[.slice An N.length cn] 110)).alloc (.cells #[.slice Ac C.length cc] 37)) (.cells #[.int .i64 0,.int .i64 0] 48)
  rw [hW] at h
  simpa using h
 have HRes:Hid (W.heap[w.heap.size+1+1]?=some (.cells #[.int .i64 0,.int .i64 0] 48 (0,0))):=hres
 have HQ0:=hid_of q0
 have HQ1:=hid_of q1
 by_cases h1:ckErr N C=0
 case neg =>
  obtain ⟨e1,e2⟩:=val_ck h0 h1
  rw [e1,e2]
  rw [errV_some h1] at hrk ⊢
  unfold noC
  clear h0 h1 e1 e2 hL hN hC hBW q0 q1 hsW hres w0 w1
  go_enter Tryz.func81,Tryz.ntmps81
  go_wp2_with fail
  refine (hck _ HBW.out).mono ?_
  rintro e w1 ⟨rfl,hb1⟩
  have HB1:Hid (Below W.heap.size W w1):=hb1
  have p1:=(hb1.cell (p:=⟨w.heap.size,0,none⟩) (by have:=HSW.out;simp;omega)).trans HQ0.out
  have p2:=(hb1.cell (p:=⟨w.heap.size+1,0,none⟩) (by have:=HSW.out;simp;omega)).trans HQ1.out
  clear hb1 hck hW
  go_wp2_with fail
  refine (hrk _ (onB HBW.out HB1.out)).mono ?_
  rintro e w3 ⟨rfl,hb3⟩
  have HB3:Hid (Below W.heap.size W w3):=onB HB1.out hb3
  have hr:=(HB3.out.block (w.heap.size+1+1) (by have:=HSW.out;omega)).trans HRes.out
  have r1:w.heap.size+1+1<w3.heap.size:=(Array.getElem?_eq_some_iff.1 hr).1
  have r2:w3.cell? ⟨w.heap.size+1+1,0,none⟩=some (.int .i64 0):=by simp [World.cell?,hr]
  have r3:w3.cell? ⟨w.heap.size+1+1,1,none⟩=some (.int .i64 0):=by simp [World.cell?,hr]
  have rf0:w3.frozen? ⟨w.heap.size+1+1,0,none⟩=false:=by simp [World.frozen?,hr]
  have rf1:w3.frozen? ⟨w.heap.size+1+1,1,none⟩=false:=by simp [World.frozen?,hr]
  clear hb3 hr hrk p1 p2
  go_wp2_with fail
  refine bodyPost_ret (v:=.tuple #[.agg #[.int .i64 0,.int .i64 0],.iface 58 (.int .i64 (ckErr N C))]) (by simp [results,Tryz.results81,go_sem,r2,r3]) rfl ⟨rfl,?_⟩
  exact ((onB HBW.out HB3.out).setCell (by simp;omega) _).setCell (by simp;omega) _
 obtain ⟨e1,e2⟩:=val_all h0 h1
 rw [e1,e2]
 rw [h1,errV_zero] at hrk
 have HCm:Hid (∀ w',Below W.heap.size W w'→Calls Tryz.prog 113 #[.slice A l.length cap,.func (.func 114) #[] #[.pointer (some ⟨w.heap.size,0,none⟩),.pointer (some ⟨w.heap.size+1,0,none⟩)]] w' fun e w''=>e=.returned (.tuple #[.agg #[.int .i64 (if missT N (treeOf l (l.length-1))=true then noC else valT N C (treeOf l (l.length-1))).1,.int .i64 (if missT N (treeOf l (l.length-1))=true then noC else valT N C (treeOf l (l.length-1))).2],errV (if missT N (treeOf l (l.length-1))=true then 5 else 0)])∧Below w'.heap.size w' w''):=by
  intro w' hb
  refine comes_any 114 w.heap.size (w.heap.size+1) ent_value1 N C A cap l w' (hL.later (onB hBW hb)) h0 (ck_ok h1) ?_
  intro x w'' hb2
  have hbb:=onB hb hb2
  exact value1_any w.heap.size (w.heap.size+1) An cn N Ac cc C x w'' ((hbb.cell (p:=⟨w.heap.size,0,none⟩) (by simp;omega)).trans q0) ((hbb.cell (p:=⟨w.heap.size+1,0,none⟩) (by simp;omega)).trans q1) (hN.later (onB hBW hbb)) (hC.later (onB hBW hbb)) h1
 obtain ⟨R,hR⟩:∃ R,(if missT N (treeOf l (l.length-1))=true then noC else valT N C (treeOf l (l.length-1)))=R:=⟨_,rfl⟩
 obtain ⟨E,hE⟩:∃ E,errV (if missT N (treeOf l (l.length-1))=true then 5 else 0)=E:=⟨_,rfl⟩
 rw [hR,hE] at HCm ⊢
 clear h0 h1 e1 e2 hL hN hC hR hE hBW q0 q1 hsW hres w0 w1
 go_enter Tryz.func81,Tryz.ntmps81
 go_wp2_with fail
 refine (hck _ HBW.out).mono ?_
 rintro e w1 ⟨rfl,hb1⟩
 have HB1:Hid (Below W.heap.size W w1):=hb1
 have p1:=(hb1.cell (p:=⟨w.heap.size,0,none⟩) (by have:=HSW.out;simp;omega)).trans HQ0.out
 have p2:=(hb1.cell (p:=⟨w.heap.size+1,0,none⟩) (by have:=HSW.out;simp;omega)).trans HQ1.out
 clear hb1 hck hW
 go_wp2_with fail
 refine (hrk _ (onB HBW.out HB1.out)).mono ?_
 rintro e w2 ⟨rfl,hb2⟩
 have HB2:Hid (Below W.heap.size W w2):=onB HB1.out hb2
 clear hb2 hrk p1 p2
 go_wp2_with fail
 refine (HCm.out _ HB2.out).mono ?_
 rintro e w3 ⟨rfl,hb3⟩
 have HB3:Hid (Below W.heap.size W w3):=onB HB2.out hb3
 have hr:=(HB3.out.block (w.heap.size+1+1) (by have:=HSW.out;omega)).trans HRes.out
 have r1:w.heap.size+1+1<w3.heap.size:=(Array.getElem?_eq_some_iff.1 hr).1
 have r2:w3.cell? ⟨w.heap.size+1+1,0,none⟩=some (.int .i64 0):=by simp [World.cell?,hr]
 have r3:w3.cell? ⟨w.heap.size+1+1,1,none⟩=some (.int .i64 0):=by simp [World.cell?,hr]
 have rf0:w3.frozen? ⟨w.heap.size+1+1,0,none⟩=false:=by simp [World.frozen?,hr]
 have rf1:w3.frozen? ⟨w.heap.size+1+1,1,none⟩=false:=by simp [World.frozen?,hr]
 clear hb3 hr
 go_wp2_with fail
 refine bodyPost_ret (v:=.tuple #[.agg #[.int .i64 R.1,.int .i64 R.2],E]) (by simp [results,Tryz.results81,go_sem,r2,r3]) rfl ⟨rfl,?_⟩
 exact ((onB HBW.out HB3.out).setCell (by simp;omega) _).setCell (by simp;omega) _
end Go.Proofs.YtglekooldbeklaaGreatDoor
namespace Go.Proofs.YtglekooldbeklaaGreatDoor
set_option maxRecDepth 20000
def nmB (l:List UInt8):ByteArray:=⟨l.toArray⟩
theorem nmB_list (l:List UInt8):(nmB l).data.toList=l:=by simp [nmB]
theorem nmB_back (s:ByteArray):nmB s.data.toList=s:=by unfold nmB;simp
theorem comp_rise (zs:List (List UInt8)) (hs:zs.Pairwise (fun a b=>a≤b)):(Lib.compact zs).Pairwise (fun a b=>a≤b):=by
 unfold Lib.compact
 have hle:∀ i j,i≤j→j<zs.length→zs.toArray[i]!≤zs.toArray[j]! := fun i j hij hj=>by
  rw [getElem!_pos _ i (by simp;omega),getElem!_pos _ j (by simpa using hj)]
  by_cases e:i=j
  ·subst e;exact List.le_refl _
  ·have:=List.pairwise_iff_getElem.1 hs i j (by omega) hj (by omega)
   simpa using this
 have h:∀ m,m≤zs.length→(Lib.compactUpTo zs.toArray m).Pairwise (fun a b=>a≤b)∧∀ x∈Lib.compactUpTo zs.toArray m,∃ j,j<m∧zs.toArray[j]! = x:=by
  intro m
  induction m with
  | zero=>intro _;exact ⟨by simp [Lib.compactUpTo],fun x hx=>by simp [Lib.compactUpTo] at hx⟩
  | succ m ih =>
   intro hm
   obtain ⟨h1,h2⟩:=ih (by omega)
   rw [Lib.compactUpTo_succ]
   refine ⟨?_,fun x hx=>?_⟩
   ·rw [List.pairwise_append]
    refine ⟨h1,by split <;> simp,fun a ha b hb=>?_⟩
    split at hb
    ·rw [List.mem_singleton.1 hb]
     obtain ⟨j,h3,h4⟩:=h2 a ha
     rw [←h4]
     exact hle j m (by omega) (by omega)
    ·cases hb
   ·rcases List.mem_append.1 hx with hx | hx
    ·obtain ⟨j,h3,h4⟩:=h2 x hx
     exact ⟨j,by omega,h4⟩
    ·split at hx
     ·exact ⟨m,by omega,(List.mem_singleton.1 hx).symm⟩
     ·cases hx
 exact (h _ (Nat.le_refl _)).1
theorem refs_rise {l:List Nd} (h:formErr l=0):∀ i j,i<j→j<(refsP l).length→(refsP l).getD i []<(refsP l).getD j []:=by
 intro i j hij hj
 have hnd:=(refs_once h).1
 have hle:(refsP l).Pairwise (fun a b=>a≤b):=by
  unfold refsP
  rw [if_pos h]
  exact comp_rise _ (srt_le _)
 rw [List.getD_eq_getElem?_getD,List.getD_eq_getElem?_getD,List.getElem?_eq_getElem (by omega:i<_),List.getElem?_eq_getElem hj]
 have h1:=List.pairwise_iff_getElem.1 hle i j (by omega) hj hij
 have h2:=List.pairwise_iff_getElem.1 hnd i j (by omega) hj hij
 simp only [Option.getD_some]
 rcases Std.lt_trichotomy (refsP l)[i] (refsP l)[j] with h3 | h3 | h3
 ·exact h3
 ·exact absurd h3 h2
 ·exact absurd (List.le_antisymm h1 (List.le_of_lt h3)) h2
theorem names_down {l:List Nd} (h:formErr l=0):∀ j,1≤j→j<((refsP l).map nmB).length→downS ((refsP l).map nmB) j=false:=by
 intro j h1 hj
 rw [List.length_map] at hj
 have hr:=refs_rise h (j-1) j (by omega) hj
 have e:∀ k,k<(refsP l).length→(((refsP l).map nmB).getD k noS).toList=(refsP l).getD k []:=fun k hk=>by
  rw [List.getD_eq_getElem?_getD,List.getElem?_map,List.getElem?_eq_getElem hk,List.getD_eq_getElem?_getD,List.getElem?_eq_getElem hk]
  simp only [Option.map_some,Option.getD_some]
  rw [ByteArray.toList_eq,nmB_list]
 unfold downS
 rw [e j hj,e (j-1) (by omega),bytesLess_eq,Bool.or_eq_false_iff]
 refine ⟨decide_eq_false fun h3=>?_,?_⟩
 ·exact absurd (List.lt_trans hr h3) (List.lt_irrefl _)
 ·rw [beq_eq_false_iff_ne]
  intro h3
  rw [h3] at hr
  exact absurd hr (List.lt_irrefl _)
theorem form_value {d:Dm} (hd:(dimErr d).2=0) {i:Nat} (hf:(d.mem i).formula.size≠0) (hm:mErr d i=0) (f:Int→Int×Int) (hok:∀ z∈mNd d i,goodC (f z)) :
  valE (prsL (d.mem i).formula) ((refsP (prsL (d.mem i).formula)).map nmB) (((refsP (prsL (d.mem i).formula)).map (whL d)).map f)=0∧valC (prsL (d.mem i).formula) ((refsP (prsL (d.mem i).formula)).map nmB) (((refsP (prsL (d.mem i).formula)).map (whL d)).map f)=oneV d f i:=by
 have hpe:=mErr_prsE hf hm
 have hfe:=form_read hpe
 obtain ⟨l,hl⟩:∃ l,prsL (d.mem i).formula=l:=⟨_,rfl⟩
 have hmem:∀ x,x∈refsP l↔x∈nmsOf d i:=fun x=>by
  rw [(refs_once (by rw [←hl];exact hfe)).2 x]
  unfold nmsOf
  rw [hl]
 have htre:treF d i=treeOf l (l.length-1):=by unfold treF;rw [hl]
 have htn:∀ s∈refsT (treeOf l (l.length-1)),s.data.toList∈refsP l:=fun s hs=>(hmem _).2 (tre_names hpe (by rw [htre];exact hs))
 rw [hl] at hfe ⊢
 have hck:ckErr ((refsP l).map nmB) (((refsP l).map (whL d)).map f)=0:=by
  refine ck_good (by simp) (fun j hj=>?_) (names_down hfe)
  simp only [List.length_map] at hj
  unfold goodB
  have hz:((refsP l).map (whL d))[j]'(by simpa using hj)∈mNd d i:=(need_names hd hf hm _).2 ⟨_,(hmem _).1 (List.getElem_mem hj),by simp⟩
  have hg:=hok _ hz
  unfold goodC at hg
  rw [List.getD_eq_getElem?_getD,List.getElem?_eq_getElem (by simpa using hj)]
  simp only [Option.getD_some,List.getElem_map] at hg ⊢
  rw [hg]
  rfl
 have hwh:∀ s,s.data.toList∈refsP l→∃ k:Nat,whereS ((refsP l).map nmB) s=(k:Int)∧k<(refsP l).length∧nmB ((refsP l).getD k [])=s:=fun s hs=>by
  rcases where_cases ((refsP l).map nmB) s with ⟨-,h2⟩ | ⟨k,h1,h2,h3⟩
  ·obtain ⟨k,hk,e⟩:=List.getElem_of_mem hs
   refine absurd ?_ (h2 k (by simpa using hk))
   rw [List.getD_eq_getElem?_getD,List.getElem?_map,List.getElem?_eq_getElem hk]
   simp only [Option.map_some,Option.getD_some]
   rw [e,nmB_back]
  ·rw [List.length_map] at h2
   refine ⟨k,h1,h2,?_⟩
   rw [List.getD_eq_getElem?_getD,List.getElem?_map,List.getElem?_eq_getElem h2] at h3
   rw [List.getD_eq_getElem?_getD,List.getElem?_eq_getElem h2]
   exact h3
 have hmiss:missT ((refsP l).map nmB) (treeOf l (l.length-1))=false:=by
  unfold missT
  rw [List.any_eq_false]
  intro s hs
  obtain ⟨k,h1,-,-⟩:=hwh s (htn s hs)
  rw [h1]
  simp
 obtain ⟨e1,e2⟩:=val_all hfe hck
 rw [hmiss] at e1 e2
 refine ⟨e1,e2.trans ?_⟩
 simp only [Bool.false_eq_true,if_false]
 unfold oneV
 rw [if_neg hf,htre]
 refine valG_names _ _ _ _ fun s hs=>?_
 obtain ⟨k,h1,h2,h3⟩:=hwh s (htn s hs)
 unfold refC
 rw [h1,Int.toNat_natCast,List.getD_eq_getElem?_getD,List.getElem?_map,List.getElem?_map,List.getElem?_eq_getElem h2]
 simp only [Option.map_some,Option.getD_some]
 rw [←h3,nmB_list,List.getD_eq_getElem?_getD,List.getElem?_eq_getElem h2]
 rfl
theorem parts_value {d:Dm} {i:Nat} (hf:(d.mem i).formula.size=0) (f:Int→Int×Int):partsV d.mem f (mNd d i)=oneV d f i:=by
 unfold partsV oneV
 rw [if_pos hf,←parts_need hf]
 have hall:∀ (P:List Int) (c:Int×Int),(P.filter (sgB d)).foldl (partStep d.mem f) c=P.foldl (partStep d.mem f) c:=by
  intro P
  induction P with
  | nil=>intro c;rfl
  | cons x r ih =>
   intro c
   rw [List.filter_cons,List.foldl_cons]
   by_cases hs:sgB d x=true
   ·rw [if_pos hs,List.foldl_cons,ih]
   ·rw [if_neg hs,ih]
    have h0:(d.mem x.toNat).sign=0:=by unfold sgB at hs;simpa using hs
    have e:partStep d.mem f c x=c:=by unfold partStep;rw [if_neg (by omega),if_neg (by omega)]
    rw [e]
 exact hall _ _
theorem good_one {d:Dm} (hd:(dimErr d).2=0) {i:Nat} (hm:mErr d i=0) (f:Int→Int×Int) (hok:∀ z∈mNd d i,goodC (f z)):goodC (oneV d f i):=by
 by_cases hf:(d.mem i).formula.size=0
 ·rw [←parts_value hf]
  exact good_parts _ _ _
 ·have hpe:=mErr_prsE hf hm
  unfold oneV
  rw [if_neg hf]
  have hall:∀ t:Tre,(∀ s∈refsT t,goodC (f (whL d s.data.toList)))→goodC (valG (fun s=>f (whL d s.data.toList)) t):=by
   intro t
   induction t with
   | num n=>intro _;exact good_ofP n
   | ref s=>intro h;exact h s (by simp [refsT])
   | bin o a b _ _=>intro _;exact opP_ok o _ _
  exact hall _ fun s hs=>hok _ ((need_names hd hf hm _).2 ⟨_,tre_names hpe hs,rfl⟩)
theorem good_sol {D:Nat→Dm} {n:Nat} (hR:AllR D n) {inp:List Int→Int×Int} (hg:∀ p,goodC (inp p)):∀ (m:Nat) (p:List Int),InO D n p→msrTo D p n<m→goodC (solV D n inp p):=by
 intro m
 induction m with
 | zero=>intro p _ h;omega
 | succ m ih =>
  intro p hp hm
  rcases by_in D p n with h | ⟨b,h1,h2⟩
  ·rw [sol_leaf inp (by omega)]
   exact hg p
  ·rw [sol_by hR inp hp h1]
   obtain ⟨hd,hme,-,-⟩:=rErr_right (hR b h2)
   have hp0:=hp.lo b h2
   have hp1:=hp.hi b h2
   refine good_one hd (hme _ (by omega)) _ fun z hz=>?_
   have hxi:=mNd_in hz
   have hrk:=rk_less (hR b h2) (i:=(p.getD b 0).toNat) (by omega) hz
   rw [Int.toNat_of_nonneg hp0] at hrk
   have hms:=(msr_less (by rw [hp.len];exact h2) hrk n).2 h2
   exact ih _ (inO_set hp h2 hxi.1 hxi.2) (by omega)
end Go.Proofs.YtglekooldbeklaaGreatDoor
namespace Go.Proofs.YtglekooldbeklaaGreatDoor
open Go.ChangeShapes Go.WideShapes Go.ChangeAt Go.RowKit
set_option maxRecDepth 100000
theorem setCells_ty {g T:Nat} {fr:Nat×Nat}:∀ (vs:List Value) (o:Nat) (cur:Array Value) (w:World),w.heap[g]?=some (.cells cur T fr)→∃ cur',(w.setCells g o vs).heap[g]?=some (.cells cur' T fr)∧cur'.size=cur.size
 | [],_,cur,_,h=>⟨cur,h,rfl⟩
 | v :: r,o,cur,w,h=>by
  obtain ⟨c2,h2,h3⟩:=setCells_ty r (o+1) _ (w.setCell ⟨g,o,none⟩ v) (set_ty h)
  exact ⟨c2,h2,by rw [h3];simp⟩
theorem setCells_size (g:Nat):∀ (vs:List Value) (o:Nat) (w:World),(w.setCells g o vs).heap.size=w.heap.size
 | [],_,_=>rfl
 | v :: r,o,w=>by
  show ((w.setCell ⟨g,o,none⟩ v).setCells g (o+1) r).heap.size=_
  rw [setCells_size g r];simp
theorem setCells_off (g:Nat) {b:Nat} (hb:b≠g):∀ (vs:List Value) (o:Nat) (w:World),(w.setCells g o vs).heap[b]?=w.heap[b]?
 | [],_,_=>rfl
 | v :: r,o,w=>by
  show ((w.setCell ⟨g,o,none⟩ v).setCells g (o+1) r).heap[b]?=_
  rw [setCells_off g hb r,setCell_off _ _ _ _ _ hb]
theorem setCells_os (g:Nat):∀ (vs:List Value) (o:Nat) (w:World),(w.setCells g o vs).os=w.os∧(w.setCells g o vs).tape=w.tape∧(w.setCells g o vs).output=w.output
 | [],_,_=>⟨rfl,rfl,rfl⟩
 | v :: r,o,w=>setCells_os g r (o+1) (w.setCell ⟨g,o,none⟩ v)
theorem grown_setCells {w w':World} {g:Nat} (h:w.grownBy w' (some g)) (vs:List Value) (o:Nat):w.grownBy (w'.setCells g o vs) (some g):=by
 obtain ⟨e1,e2,e3⟩:=setCells_os g vs o w'
 refine ⟨e1.trans h.os,e2.trans h.tape,e3.trans h.output,by rw [setCells_size];exact h.size,fun k hk hne=>?_⟩
 rw [setCells_off g (fun e=>hne (by rw [e]))]
 exact h.block k hk hne
def RdyV (w:World) (g:Nat) (A:Option Addr) (cap:Nat) (L:List Int):Prop:=L.length≤cap∧cap≤9223372036854775807∧∃ o,A=some ⟨g,o,none⟩∧(∃ cur,w.heap[g]?=some (.cells cur 3 (0,0))∧o+cap≤cur.size)∧∀ j,j<L.length→w.cell? ⟨g,o+j,none⟩=some (.int .i64 (L.getD j 0))
theorem RdyV.lt {w:World} {g cap:Nat} {A:Option Addr} {L:List Int} (h:RdyV w g A cap L):g<w.heap.size:=by
 obtain ⟨-,-,o,-,⟨cur,hc,-⟩,-⟩:=h
 exact (Array.getElem?_eq_some_iff.1 hc).1
theorem RdyV.same {w w':World} {g cap:Nat} {A:Option Addr} {L:List Int} (h:RdyV w g A cap L) (hb:w'.heap[g]?=w.heap[g]?):RdyV w' g A cap L:=by
 obtain ⟨h1,h2,o,h3,⟨cur,hc,h4⟩,h5⟩:=h
 exact ⟨h1,h2,o,h3,⟨cur,hb.trans hc,h4⟩,fun j hj=>(World.cell?_of_block (a:=⟨g,o+j,none⟩) hb).trans (h5 j hj)⟩
theorem RdyV.later {w w':World} {g cap:Nat} {A:Option Addr} {L:List Int} (h:RdyV w g A cap L) (hB:Below w.heap.size w w'):RdyV w' g A cap L:=h.same (hB.block g h.lt)
theorem RdyV.own {w:World} {base:Nat} {v:Value} {L:List Int} (h:w.ownsRow base 3 1 v L.length (mapI L)) (hl:0<L.length):∃ g c,v=.slice (some ⟨g,0,none⟩) L.length c∧base≤g∧RdyV w g (some ⟨g,0,none⟩) c L:=by
 rcases h.2 with ⟨rfl,h0⟩ | ⟨g,cap,cur,rfl,hb,hg,hc,hm,hs,_⟩
 ·omega
 ·refine ⟨g,cap,rfl,hb,hc,by unfold maxLen at hm;omega,0,rfl,⟨cur,hg,by omega⟩,fun j hj=>?_⟩
  have hx:=h.cells (g:=g) rfl j (.int .i64 (L.getD j 0)) (by simp [mapI,List.getD,List.getElem?_eq_getElem hj])
  have hadd:(⟨g,0,none⟩:Addr).add j=⟨g,j,none⟩:=by unfold Addr.add;split <;> simp_all
  rw [hadd] at hx
  rw [Nat.zero_add]
  exact hx
theorem mapI_at {L:List Int} {j:Nat} {v:Value} (h:(mapI L)[j]?=some v):j<L.length∧v=.int .i64 (L.getD j 0):=by
 unfold mapI at h
 rw [List.getElem?_map] at h
 have hj:j<L.length:=by
  refine Classical.byContradiction fun hn=>?_
  rw [List.getElem?_eq_none (by omega)] at h
  cases h
 rw [List.getElem?_eq_getElem hj] at h
 refine ⟨hj,?_⟩
 rw [List.getD_eq_getElem?_getD,List.getElem?_eq_getElem hj]
 simp at h ⊢
 exact h.symm
theorem mapI_one (L:List Int):∀ v∈mapI L,v.oneCell'=true:=by intro u hu;simp [mapI] at hu;obtain ⟨x,-,rfl⟩:=hu;rfl
theorem mapI_len (L:List Int):(mapI L).length=L.length:=by simp [mapI]
theorem RdyV.cells {w:World} {g cap o:Nat} {L:List Int} (h:RdyV w g (some ⟨g,o,none⟩) cap L):∀ j v,(mapI L)[j]?=some v→w.cell? ⟨g,o+j,none⟩=some v:=fun j v hj=>by
 obtain ⟨hj1,rfl⟩:=mapI_at hj
 obtain ⟨-,-,o',h3,-,h5⟩:=h
 cases h3
 exact h5 j hj1
theorem ins_at {L:List Int} {x:Int} {i:Nat} (hi:i≤L.length) (j:Nat):(j<i→(L.take i ++ x :: L.drop i).getD j 0=L.getD j 0)∧(j=i→(L.take i ++ x :: L.drop i).getD j 0=x)∧(i<j→(L.take i ++ x :: L.drop i).getD j 0=L.getD (j-1) 0):=by
 have hl:(L.take i).length=i:=by rw [List.length_take];omega
 refine ⟨fun h=>?_,fun h=>?_,fun h=>?_⟩
 ·rw [List.getD_eq_getElem?_getD,List.getElem?_append_left (by omega),List.getElem?_take_of_lt h,List.getD_eq_getElem?_getD]
 ·subst h
  rw [List.getD_eq_getElem?_getD,List.getElem?_append_right (by omega),hl,Nat.sub_self]
  rfl
 ·rw [List.getD_eq_getElem?_getD,List.getElem?_append_right (by omega),hl,show j-i=(j-i-1)+1 by omega,List.getElem?_cons_succ,List.getElem?_drop,List.getD_eq_getElem?_getD,show i+(j-i-1)=j-1 by omega]
theorem ins_len {L:List Int} {x:Int} {i:Nat} (hi:i≤L.length):(L.take i ++ x :: L.drop i).length=L.length+1:=by
 rw [List.length_append,List.length_cons,List.length_take,List.length_drop]
 omega
theorem findI_any (A:Option Addr) (cap g:Nat) (L:List Int) (x:Int) (w:World) (hl:L.length≤3000) (hR:RdyV w g A cap L) (hs:L.Pairwise (· < ·)):Calls Tryz.prog 78 #[.slice A L.length cap,.int .i64 x] w fun e w'=>(∃ b,e=.returned (.tuple #[.int .i64 (L.countP (· < x):Nat),.bool b]))∧Below w.heap.size w w':=by
 obtain ⟨-,-,o,rfl,-,h5⟩:=hR
 refine Calls.mono (Any.slices_BinarySearch_int Tryz.lays25 g o L.length cap L x w (Nat.le_refl _) (by omega) h5 (by rw [List.take_length];exact hs.imp fun h=>by omega)) ?_
 rintro e w' ⟨rfl,q,rfl⟩
 rw [List.take_length]
 exact ⟨⟨_,rfl⟩,below_drewN (Below.refl _ _) _⟩
def InsI (w:World) (g i:Nat) (L:List Int) (x:Int) (e:Ending) (w':World):Prop := ∃ g' A' c',e=.returned (.slice A' (L.length+1) c')∧RdyV w' g' A' c' (L.take i ++ x :: L.drop i)∧(g'=g∨w.heap.size≤g')∧w.grownBy w' (some g)
theorem insI_any (A:Option Addr) (cap g i vb:Nat) (L:List Int) (x:Int) (w:World) (hl:L.length≤3000) (hi:i≤L.length) (hR:RdyV w g A cap L) (hv:w.heap[vb]?=some (.cells #[.int .i64 x] 3 (0,0))) (hvb:vb≠g):Calls Tryz.prog 79 #[.slice A L.length cap,.int .i64 i,.slice (some ⟨vb,0,none⟩) 1 1] w fun e w'=>InsI w g i L x e w':=by
 obtain ⟨h1,h2,o,rfl,⟨cur,hc,h4⟩,h5⟩:=id hR
 have hgl:=hR.lt
 have hcs:=hR.cells
 have hvs:∀ j v,([Value.int .i64 x]:List Value)[j]?=some v→w.cell? ⟨vb,0+j,none⟩=some v:=fun j v hj=>by
  rw [Nat.zero_add,Lib.cell_of_heap hv]
  simpa using hj
 have hone:∀ v∈([Value.int .i64 x]:List Value),v.oneCell'=true:=fun v hv=>by simp at hv;subst hv;rfl
 have hsp:∀ j,j<cap→(w.cell? ⟨g,o+j,none⟩).isSome=true:=fun j hj=>by
  rw [Lib.cell_of_heap hc]
  simp [show o+j<cur.size by omega]
 have hfz:∀ j,w.frozen? ⟨g,j,none⟩=false:=fun j=>Lib.frozen_of_heap hc j
 have hfin:∀ w',w.grownBy w' (some g)→(∃ cur',w'.heap[g]?=some (.cells cur' 3 (0,0))∧cur'.size=cur.size)→L.length+1≤cap→(∀ j,j<i→w'.cell? ⟨g,o+j,none⟩=some (.int .i64 (L.getD j 0)))→w'.cell? ⟨g,o+i,none⟩=some (.int .i64 x)→(∀ j,i<j→j<L.length+1→w'.cell? ⟨g,o+j,none⟩=some (.int .i64 (L.getD (j-1) 0)))→InsI w g i L x (.returned (.slice (some ⟨g,o,none⟩) (L.length+1) cap)) w':=fun w' hG hty hroom a1 a2 a3=>by
  obtain ⟨cur',hc',hsz⟩:=hty
  refine ⟨g,_,_,rfl,⟨by rw [ins_len hi];exact hroom,h2,o,rfl,⟨cur',hc',by omega⟩,fun j hj=>?_⟩,Or.inl rfl,hG⟩
  rw [ins_len hi] at hj
  obtain ⟨b1,b2,b3⟩:=ins_at (x:=x) hi j
  by_cases e1:j<i
  ·rw [b1 e1];exact a1 j e1
  ·by_cases e2:j=i
   ·rw [b2 e2,e2];exact a2
   ·rw [b3 (by omega)];exact a3 j (by omega) hj
 by_cases hroom:L.length+1≤cap
 ·by_cases hin:i<L.length
  ·refine Calls.mono (Any2.slices_Insert_int_shift Tryz.lays21 g o L.length cap i vb 0 1 1 (mapI L) [.int .i64 x] w hin (by omega) hroom h2 hvb (mapI_len L) rfl hcs (fun j hj=>hsp j (by omega)) (fun j _=>hfz _) hvs (mapI_one L) hone 3 3 1 cur.size (by simp [World.shape?,hv]) (by simp [World.shape?,hc]) (by omega) (Lib.frozen_of_heap hv 0) (Lib.frozen_of_heap hv 1)) ?_
   rintro e w' ⟨rfl,rfl⟩
   have hdl:((mapI L).drop i).length=L.length-i:=by rw [List.length_drop,mapI_len]
   obtain ⟨c1,hc1,hs1⟩:=setCells_ty ((mapI L).drop i) (o+(i+1)) cur w.drew hc
   obtain ⟨c2,hc2,hs2⟩:=setCells_ty [.int .i64 x] (o+i) c1 _ hc1
   have hin1:∀ j,i<j→j<L.length+1→(w.drew.setCells g (o+(i+1)) ((mapI L).drop i)).cell? ⟨g,o+j,none⟩=some (.int .i64 (L.getD (j-1) 0)):=fun j e1 e2=>by
    have h:=World.cell?_setCells_in g ((mapI L).drop i) (o+(i+1)) w.drew (fun k hk=>by rw [hdl] at hk;have:=hsp (i+1+k) (by omega);rw [show o+(i+1)+k=o+(i+1+k) by omega];exact this) (j-(i+1)) (by rw [hdl];omega)
    rw [show o+(i+1)+(j-(i+1))=o+j by omega] at h
    rw [h,List.getElem_drop]
    simp only [mapI,List.getElem_map,Option.some.injEq,Value.int.injEq,true_and]
    rw [List.getD_eq_getElem?_getD,List.getElem?_eq_getElem (by omega)]
    simp only [Option.getD_some]
    congr 1
    omega
   refine hfin _ (grown_setCells (grown_setCells (grown_drew (grown_refl _ _)) _ _) _ _) ⟨c2,hc2,by omega⟩ hroom (fun j hj=>?_) ?_ fun j e1 e2=>?_
   ·rw [World.cell?_setCells_out g _ _ _ _ (fun _ _=>Or.inl (by show o+j<o+i;omega)),World.cell?_setCells_out g _ _ _ _ (fun _ _=>Or.inl (by show o+j<o+(i+1);omega))]
    exact h5 j (by omega)
   ·have h:=World.cell?_setCells_in g [.int .i64 x] (o+i) (w.drew.setCells g (o+(i+1)) ((mapI L).drop i)) (fun k hk=>by
     have hk0:k=0:=by simpa using hk
     subst hk0
     rw [World.cell?_setCells_out g _ _ _ _ (fun _ _=>Or.inl (by show o+i+0<o+(i+1);omega))]
     exact hsp i (by omega)) 0 (by simp)
    simpa using h
   ·rw [World.cell?_setCells_out g _ _ _ _ (fun _ _=>Or.inr (by show o+i+1≤o+j;omega))]
    exact hin1 j e1 e2
  ·have hie:i=L.length:=by omega
   subst hie
   refine Calls.mono (Any2.slices_Insert_int_end_room Tryz.lays21 g o L.length cap vb 0 1 1 [.int .i64 x] w (by omega) hroom h2 rfl (fun j hj=>by have:=hsp (L.length+j) (by omega);rw [show o+L.length+j=o+(L.length+j) by omega];exact this) (fun j _=>hfz _) hvs hone) ?_
   rintro e w' ⟨rfl,rfl⟩
   obtain ⟨c2,hc2,hs2⟩:=setCells_ty [.int .i64 x] (o+L.length) cur w hc
   refine hfin _ (grown_setCells (grown_refl _ _) _ _) ⟨c2,hc2,hs2⟩ hroom (fun j hj=>?_) ?_ fun j e1 e2=>by omega
   ·rw [World.cell?_setCells_out g _ _ _ _ (fun _ _=>Or.inl (by show o+j<o+L.length;omega))]
    exact h5 j hj
   ·have h:=World.cell?_setCells_in g [.int .i64 x] (o+L.length) w (fun k hk=>by
     have hk0:k=0:=by simpa using hk
     subst hk0
     exact hsp L.length (by omega)) 0 (by simp)
    simpa using h
 ·have hnew:∀ (G:Nat) (w':World),L.length+1≤G→G≤maxLen→Below w.heap.size w w'→(∃ cur',w'.heap[w.heap.size]?=some (.cells cur' 3 (0,0))∧cur'.size=G)→(∀ j,j<i→w'.cell? ⟨w.heap.size,j,none⟩=some (.int .i64 (L.getD j 0)))→w'.cell? ⟨w.heap.size,i,none⟩=some (.int .i64 x)→(∀ j,i<j→j<L.length+1→w'.cell? ⟨w.heap.size,j,none⟩=some (.int .i64 (L.getD (j-1) 0)))→InsI w g i L x (.returned (.slice (some ⟨w.heap.size,0,none⟩) (L.length+1) G)) w':=fun G w' hG hG2 hB hty a1 a2 a3=>by
   obtain ⟨cur',hc',hsz⟩:=hty
   refine ⟨w.heap.size,_,_,rfl,⟨by rw [ins_len hi];exact hG,by unfold maxLen at hG2;omega,0,rfl,⟨cur',hc',by omega⟩,fun j hj=>?_⟩,Or.inr (Nat.le_refl _),grown_below hB⟩
   rw [ins_len hi] at hj
   obtain ⟨b1,b2,b3⟩:=ins_at (x:=x) hi j
   rw [Nat.zero_add]
   by_cases e1:j<i
   ·rw [b1 e1];exact a1 j e1
   ·by_cases e2:j=i
    ·rw [b2 e2,e2];exact a2
    ·rw [b3 (by omega)];exact a3 j (by omega) hj
  have hG1:=grownCap_ge w (L.length+1) cap 3
  have hG2:=grownCap_le_maxLen w (L.length+1) cap 3 (by unfold maxLen;omega)
  by_cases hin:i<L.length
  ·refine Calls.mono (Any2.slices_Insert_int_grow Tryz.lays21 g o L.length cap i vb 0 1 1 (mapI L) [.int .i64 x] w hin (by omega) h1 (by omega) (by omega) (mapI_len L) rfl hcs hvs (mapI_one L) hone) ?_
   rintro e w' ⟨rfl,rfl⟩
   have hdl:((mapI L).drop i).length=L.length-i:=by rw [List.length_drop,mapI_len]
   have htl:((mapI L).take i).length=i:=by rw [List.length_take,mapI_len];omega
   obtain ⟨ROW,hROW⟩:∃ ROW:Array Value,((mapI L).take i).toArray ++ Builtin.zeroCells (Value.int .i64 0).cells (L.length+1-i) ++ Builtin.zeroCells (Value.int .i64 0).cells (grownCap w (L.length+1) cap 3-(L.length+1))=ROW:=⟨_,rfl⟩
   have hRs:ROW.size=grownCap w (L.length+1) cap 3:=by
    rw [←hROW,Array.size_append,Array.size_append,size_zeroCells,size_zeroCells,List.size_toArray,htl]
    simp only [Value.cells,List.size_toArray,List.length_cons,List.length_nil]
    omega
   have hRt:∀ j,j<i→ROW[j]?=some (.int .i64 (L.getD j 0)):=fun j hj=>by
    rw [←hROW,Array.append_assoc,Array.getElem?_append_left (by rw [List.size_toArray,htl];exact hj),List.getElem?_toArray,List.getElem?_take_of_lt hj]
    unfold mapI
    rw [List.getElem?_map,List.getElem?_eq_getElem (by omega),List.getD_eq_getElem?_getD,List.getElem?_eq_getElem (by omega)]
    rfl
   show InsI w g i L x (.returned (.slice (some ⟨w.heap.size,0,none⟩) (L.length+1) (grownCap w (L.length+1) cap 3))) ((((w.alloc (.cells (((mapI L).take i).toArray ++ Builtin.zeroCells (Value.int .i64 0).cells (L.length+1-i) ++ Builtin.zeroCells (Value.int .i64 0).cells (grownCap w (L.length+1) cap 3-(L.length+1))) 3)).drew.setCells w.heap.size i [.int .i64 x]).drew).setCells w.heap.size (i+1) ((mapI L).drop i))
   rw [hROW]
   have hb0:((w.alloc (.cells ROW 3)).drew).heap[w.heap.size]?=some (.cells ROW 3 (0,0)):=heap_alloc_new w _
   obtain ⟨c1,hc1,hs1⟩:=setCells_ty [.int .i64 x] i ROW _ hb0
   obtain ⟨c2,hc2,hs2⟩:=setCells_ty ((mapI L).drop i) (i+1) c1 ((w.alloc (.cells ROW 3)).drew.setCells w.heap.size i [.int .i64 x]).drew hc1
   have hB0:Below w.heap.size w (w.alloc (.cells ROW 3)).drew:=by go_grown
   have hBs:∀ (w1:World) (vs:List Value) (k:Nat),Below w.heap.size w w1→Below w.heap.size w (w1.setCells w.heap.size k vs):=fun w1 vs k h=>by
    obtain ⟨e1,e2,e3⟩:=setCells_os w.heap.size vs k w1
    exact ⟨e1.trans h.os,e2.trans h.tape,e3.trans h.output,by rw [setCells_size];exact h.size,fun b hb=>by rw [setCells_off _ (Nat.ne_of_lt hb)];exact h.block b hb⟩
   have hB1:=hBs _ [.int .i64 x] i hB0
   have hsome:∀ (k:Nat),k<grownCap w (L.length+1) cap 3→((w.alloc (.cells ROW 3)).drew.cell? ⟨w.heap.size,k,none⟩).isSome=true:=fun k hk=>by
    rw [Lib.cell_of_heap hb0]
    simp [show k<ROW.size by omega]
   refine hnew _ _ hG1 hG2 (hBs _ _ _ (by exact below_drewN hB1 1)) ⟨c2,hc2,by omega⟩ (fun j hj=>?_) ?_ fun j e1 e2=>?_
   ·rw [World.cell?_setCells_out _ _ _ _ _ (fun _ _=>Or.inl (by show j<i+1;omega))]
    show ((w.alloc (.cells ROW 3)).drew.setCells w.heap.size i [.int .i64 x]).cell? _=_
    rw [World.cell?_setCells_out _ _ _ _ _ (fun _ _=>Or.inl (by show j<i;omega)),Lib.cell_of_heap hb0]
    exact hRt j hj
   ·rw [World.cell?_setCells_out _ _ _ _ _ (fun _ _=>Or.inl (by show i<i+1;omega))]
    show ((w.alloc (.cells ROW 3)).drew.setCells w.heap.size i [.int .i64 x]).cell? _=_
    have h:=World.cell?_setCells_in w.heap.size [.int .i64 x] i (w.alloc (.cells ROW 3)).drew (fun k hk=>by
     have hk0:k=0:=by simpa using hk
     subst hk0
     exact hsome _ (by omega)) 0 (by simp)
    simpa using h
   ·have h:=World.cell?_setCells_in w.heap.size ((mapI L).drop i) (i+1) ((w.alloc (.cells ROW 3)).drew.setCells w.heap.size i [.int .i64 x]).drew (fun k hk=>by
     rw [hdl] at hk
     show (((w.alloc (.cells ROW 3)).drew.setCells w.heap.size i [.int .i64 x]).cell? _).isSome=true
     rw [World.cell?_setCells_out _ _ _ _ _ (fun _ _=>Or.inr (by show i+1≤i+1+k;omega))]
     exact hsome _ (by omega)) (j-(i+1)) (by rw [hdl];omega)
    rw [show i+1+(j-(i+1))=j by omega] at h
    rw [h,List.getElem_drop]
    simp only [mapI,List.getElem_map,Option.some.injEq,Value.int.injEq,true_and]
    rw [List.getD_eq_getElem?_getD,List.getElem?_eq_getElem (by omega)]
    simp only [Option.getD_some]
    congr 1
    omega
  ·have hie:i=L.length:=by omega
   subst hie
   have hadd:∀ j,(⟨g,o,none⟩:Addr).add j=⟨g,o+j,none⟩:=fun j=>by unfold Addr.add;split <;> simp_all
   refine Calls.mono (Any2.slices_Insert_int_end_grow Tryz.lays21 (some ⟨g,o,none⟩) L.length cap vb 0 1 1 (mapI L) [.int .i64 x] w (by omega) h1 (by omega) (by omega) (mapI_len L) rfl (fun h=>by cases h) (fun a ha j v hj=>by
    cases ha
    rw [hadd]
    exact hcs j v hj) hvs hone) ?_
   rintro e w' ⟨rfl,rfl⟩
   obtain ⟨ROW,hROW⟩:∃ ROW:Array Value,(mapI L ++ [Value.int .i64 x]).toArray ++ Builtin.zeroCells (Value.int .i64 0).cells (grownCap w (L.length+1) cap 3-(L.length+1))=ROW:=⟨_,rfl⟩
   have hRs:ROW.size=grownCap w (L.length+1) cap 3:=by
    rw [←hROW,Array.size_append,size_zeroCells,List.size_toArray,List.length_append,mapI_len]
    simp only [Value.cells,List.size_toArray,List.length_cons,List.length_nil]
    omega
   show InsI w g L.length L x (.returned (.slice (some ⟨w.heap.size,0,none⟩) (L.length+1) (grownCap w (L.length+1) cap 3))) (w.drew.alloc (.cells ((mapI L ++ [Value.int .i64 x]).toArray ++ Builtin.zeroCells (Value.int .i64 0).cells (grownCap w (L.length+1) cap 3-(L.length+1))) 3))
   rw [hROW]
   have hb0:(w.drew.alloc (.cells ROW 3)).heap[w.heap.size]?=some (.cells ROW 3 (0,0)):=heap_alloc_new w.drew _
   have hat:∀ j,j<L.length+1→ROW[j]?=(mapI L ++ [Value.int .i64 x])[j]?:=fun j hj=>by
    rw [←hROW,Array.getElem?_append_left (by rw [List.size_toArray,List.length_append,mapI_len];simpa using hj),List.getElem?_toArray]
   refine hnew _ _ hG1 hG2 (by go_grown) ⟨ROW,hb0,hRs⟩ (fun j hj=>?_) ?_ fun j e1 e2=>by omega
   ·rw [Lib.cell_of_heap hb0,hat j (by omega),List.getElem?_append_left (by rw [mapI_len];exact hj)]
    unfold mapI
    rw [List.getElem?_map,List.getElem?_eq_getElem hj,List.getD_eq_getElem?_getD,List.getElem?_eq_getElem hj]
    rfl
   ·rw [Lib.cell_of_heap hb0,hat _ (by omega),List.getElem?_append_right (by rw [mapI_len];exact Nat.le_refl _),mapI_len,Nat.sub_self]
    rfl
end Go.Proofs.YtglekooldbeklaaGreatDoor
