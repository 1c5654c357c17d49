/-
  What Value of package reckon answers, called in whatever memory.
-/
import Derived.Test.YtfgegmpoejilnaaGreatDoorJGAY
import Derived.Test.YtfgegmpoejilnaaGreatDoorJGBA
namespace Go.Proofs.YtfgegmpoejilnaaGreatDoor
open Go.ChangeShapes Go.WideShapes Go.ChangeAt Go.RowKit
set_option maxRecDepth 20000
theorem ent_value1 (args:Array Value) (w:World):(callFunc 122 args).run Tryz.prog w=.ok (.enter 122 args) w:=by simp [go_sem]
theorem val_form {l:List Nd} {N:List ByteArray} {C:List (Int×Int)} (h:formErr l≠0):valE l N C=formErr l∧valC l N C=noC:=by
 have e:valE l N C=formErr l:=by unfold valE;rw [if_pos h]
 exact ⟨e,by unfold valC;rw [e,if_neg h]⟩
theorem val_ck {l:List Nd} {N:List ByteArray} {C:List (Int×Int)} (h:formErr l=0) (h1:ckErr N C≠0):valE l N C=ckErr N C∧valC l N C=noC:=by
 have e:valE l N C=ckErr N C:=by unfold valE;rw [if_neg (by simpa using h),if_pos h1]
 exact ⟨e,by unfold valC;rw [e,if_neg h1]⟩
theorem val_all {l:List Nd} {N:List ByteArray} {C:List (Int×Int)} (h:formErr l=0) (h1:ckErr N C=0):valE l N C=(if missT N (treeOf l (l.length-1))=true then 5 else 0)∧valC l N C=(if missT N (treeOf l (l.length-1))=true then noC else valT N C (treeOf l (l.length-1))):=by
 have e:valE l N C=(if missT N (treeOf l (l.length-1))=true then 5 else 0):=by unfold valE;rw [if_neg (by simpa using h),if_neg (by simpa using h1)]
 refine ⟨e,?_⟩
 unfold valC
 rw [e]
 cases missT N (treeOf l (l.length-1))
 ·rfl
 ·rfl
set_option maxHeartbeats 4000000 in
theorem value_any (A:Option Addr) (cap:Nat) (l:List Nd) (An:Option Addr) (cn:Nat) (N:List ByteArray) (Ac:Option Addr) (cc:Nat) (C:List (Int×Int)) (w:World) (hL:NdsV w A cap l) (hN:NmV w An cn N) (hC:CelV w Ac cc C) :
  Calls Tryz.prog 89 #[.slice A l.length cap,.slice An N.length cn,.slice Ac C.length cc] w fun e w'=>e=.returned (.tuple #[.agg #[.int .i64 (valC l N C).1,.int .i64 (valC l N C).2],errV (valE l N C)])∧Below w.heap.size w w':=by
 have hck:=fun w' (hb:Below w.heap.size w w')=>fchk_any A cap l w' (hL.later hb)
 by_cases h0:formErr l=0
 case neg =>
  obtain ⟨e1,e2⟩:=val_form (N:=N) (C:=C) h0
  rw [e1,e2]
  rw [errV_some h0] at hck ⊢
  unfold noC
  clear h0 e1 e2 hL hN hC
  go_enter Tryz.func89,Tryz.ntmps89
  go_wp2_with fail
  refine (hck _ (by go_grown)).mono ?_
  rintro e w1 ⟨rfl,hb1⟩
  have HB1:Hid (Below w.heap.size w w1):=onB (by go_grown) hb1
  obtain ⟨hbc,hbf⟩:=bcell hb1
  have hz:=bsize hb1
  simp at hz
  clear hb1 hck
  go_wp2_with fail
  refine bodyPost_ret (v:=.tuple #[.agg #[.int .i64 0,.int .i64 0],.iface 95 (.int .i64 (formErr l))]) (by simp [results,Tryz.results89,go_sem,hbc]) rfl ⟨rfl,?_⟩
  exact (HB1.out.setCell (by simp;omega) _).setCell (by simp;omega) _
 rw [h0,errV_zero] at hck
 have hrk:=fun w' (hb:Below w.heap.size w w')=>rkcheck_any An cn N Ac cc C w' (hN.later hb) (hC.later hb)
 obtain ⟨W,hW⟩:∃ W,((w.alloc (.cells #[.slice An N.length cn] 128)).alloc (.cells #[.slice Ac C.length cc] 42)).alloc (.cells #[.int .i64 0,.int .i64 0] 54)=W:=⟨_,rfl⟩
 have hBW:Below w.heap.size w W:=by rw [←hW];go_grown
 have w0:W.heap[w.heap.size]?=some (.cells #[.slice An N.length cn] 128 (0,0)):=by rw [←hW,heap_alloc_old _ _ (by simp;omega),topF0]
 have w1:W.heap[w.heap.size+1]?=some (.cells #[.slice Ac C.length cc] 42 (0,0)):=by rw [←hW,heap_alloc_old _ _ (by simp),topF1]
 have q0:W.cell? ⟨w.heap.size,0,none⟩=some (.slice An N.length cn):=by simp [World.cell?,w0]
 have q1:W.cell? ⟨w.heap.size+1,0,none⟩=some (.slice Ac C.length cc):=by simp [World.cell?,w1]
 have hsW:W.heap.size=w.heap.size+3:=by rw [←hW];simp
 have HBW:Hid (Below w.heap.size w W):=hBW
 have HSW:Hid (W.heap.size=w.heap.size+3):=hsW
 have hres:W.heap[w.heap.size+1+1]?=some (.cells #[.int .i64 0,.int .i64 0] 54 (0,0)):=by
  have h:=heap_alloc_new ((w.alloc (.cells #[.slice An N.length cn] 128)).alloc (.cells #[.slice Ac C.length cc] 42)) (.cells #[.int .i64 0,.int .i64 0] 54)
  rw [hW] at h
  simpa using h
 have HRes:Hid (W.heap[w.heap.size+1+1]?=some (.cells #[.int .i64 0,.int .i64 0] 54 (0,0))):=hres
 have HQ0:=hid_of q0
 have HQ1:=hid_of q1
 by_cases h1:ckErr N C=0
 case neg =>
  obtain ⟨e1,e2⟩:=val_ck h0 h1
  rw [e1,e2]
  rw [errV_some h1] at hrk ⊢
  unfold noC
  clear h0 h1 e1 e2 hL hN hC hBW q0 q1 hsW hres w0 w1
  go_enter Tryz.func89,Tryz.ntmps89
  go_wp2_with fail
  refine (hck _ HBW.out).mono ?_
  rintro e w1 ⟨rfl,hb1⟩
  have HB1:Hid (Below W.heap.size W w1):=hb1
  have p1:=(hb1.cell (p:=⟨w.heap.size,0,none⟩) (by have:=HSW.out;simp;omega)).trans HQ0.out
  have p2:=(hb1.cell (p:=⟨w.heap.size+1,0,none⟩) (by have:=HSW.out;simp;omega)).trans HQ1.out
  clear hb1 hck hW
  go_wp2_with fail
  refine (hrk _ (onB HBW.out HB1.out)).mono ?_
  rintro e w3 ⟨rfl,hb3⟩
  have HB3:Hid (Below W.heap.size W w3):=onB HB1.out hb3
  have hr:=(HB3.out.block (w.heap.size+1+1) (by have:=HSW.out;omega)).trans HRes.out
  have r1:w.heap.size+1+1<w3.heap.size:=(Array.getElem?_eq_some_iff.1 hr).1
  have r2:w3.cell? ⟨w.heap.size+1+1,0,none⟩=some (.int .i64 0):=by simp [World.cell?,hr]
  have r3:w3.cell? ⟨w.heap.size+1+1,1,none⟩=some (.int .i64 0):=by simp [World.cell?,hr]
  have rf0:w3.frozen? ⟨w.heap.size+1+1,0,none⟩=false:=by simp [World.frozen?,hr]
  have rf1:w3.frozen? ⟨w.heap.size+1+1,1,none⟩=false:=by simp [World.frozen?,hr]
  clear hb3 hr hrk p1 p2
  go_wp2_with fail
  refine bodyPost_ret (v:=.tuple #[.agg #[.int .i64 0,.int .i64 0],.iface 95 (.int .i64 (ckErr N C))]) (by simp [results,Tryz.results89,go_sem,r2,r3]) rfl ⟨rfl,?_⟩
  exact ((onB HBW.out HB3.out).setCell (by simp;omega) _).setCell (by simp;omega) _
 obtain ⟨e1,e2⟩:=val_all h0 h1
 rw [e1,e2]
 rw [h1,errV_zero] at hrk
 have HCm:Hid (∀ w',Below W.heap.size W w'→Calls Tryz.prog 121 #[.slice A l.length cap,.func (.func 122) #[] #[.pointer (some ⟨w.heap.size,0,none⟩),.pointer (some ⟨w.heap.size+1,0,none⟩)]] w' fun e w''=>e=.returned (.tuple #[.agg #[.int .i64 (if missT N (treeOf l (l.length-1))=true then noC else valT N C (treeOf l (l.length-1))).1,.int .i64 (if missT N (treeOf l (l.length-1))=true then noC else valT N C (treeOf l (l.length-1))).2],errV (if missT N (treeOf l (l.length-1))=true then 5 else 0)])∧Below w'.heap.size w' w''):=by
  intro w' hb
  refine comes_any 122 w.heap.size (w.heap.size+1) ent_value1 N C A cap l w' (hL.later (onB hBW hb)) h0 (ck_ok h1) ?_
  intro x w'' hb2
  have hbb:=onB hb hb2
  exact value1_any w.heap.size (w.heap.size+1) An cn N Ac cc C x w'' ((hbb.cell (p:=⟨w.heap.size,0,none⟩) (by simp;omega)).trans q0) ((hbb.cell (p:=⟨w.heap.size+1,0,none⟩) (by simp;omega)).trans q1) (hN.later (onB hBW hbb)) (hC.later (onB hBW hbb)) h1
 obtain ⟨R,hR⟩:∃ R,(if missT N (treeOf l (l.length-1))=true then noC else valT N C (treeOf l (l.length-1)))=R:=⟨_,rfl⟩
 obtain ⟨E,hE⟩:∃ E,errV (if missT N (treeOf l (l.length-1))=true then 5 else 0)=E:=⟨_,rfl⟩
 rw [hR,hE] at HCm ⊢
 clear h0 h1 e1 e2 hL hN hC hR hE hBW q0 q1 hsW hres w0 w1
 go_enter Tryz.func89,Tryz.ntmps89
 go_wp2_with fail
 refine (hck _ HBW.out).mono ?_
 rintro e w1 ⟨rfl,hb1⟩
 have HB1:Hid (Below W.heap.size W w1):=hb1
 have p1:=(hb1.cell (p:=⟨w.heap.size,0,none⟩) (by have:=HSW.out;simp;omega)).trans HQ0.out
 have p2:=(hb1.cell (p:=⟨w.heap.size+1,0,none⟩) (by have:=HSW.out;simp;omega)).trans HQ1.out
 clear hb1 hck hW
 go_wp2_with fail
 refine (hrk _ (onB HBW.out HB1.out)).mono ?_
 rintro e w2 ⟨rfl,hb2⟩
 have HB2:Hid (Below W.heap.size W w2):=onB HB1.out hb2
 clear hb2 hrk p1 p2
 go_wp2_with fail
 refine (HCm.out _ HB2.out).mono ?_
 rintro e w3 ⟨rfl,hb3⟩
 have HB3:Hid (Below W.heap.size W w3):=onB HB2.out hb3
 have hr:=(HB3.out.block (w.heap.size+1+1) (by have:=HSW.out;omega)).trans HRes.out
 have r1:w.heap.size+1+1<w3.heap.size:=(Array.getElem?_eq_some_iff.1 hr).1
 have r2:w3.cell? ⟨w.heap.size+1+1,0,none⟩=some (.int .i64 0):=by simp [World.cell?,hr]
 have r3:w3.cell? ⟨w.heap.size+1+1,1,none⟩=some (.int .i64 0):=by simp [World.cell?,hr]
 have rf0:w3.frozen? ⟨w.heap.size+1+1,0,none⟩=false:=by simp [World.frozen?,hr]
 have rf1:w3.frozen? ⟨w.heap.size+1+1,1,none⟩=false:=by simp [World.frozen?,hr]
 clear hb3 hr
 go_wp2_with fail
 refine bodyPost_ret (v:=.tuple #[.agg #[.int .i64 R.1,.int .i64 R.2],E]) (by simp [results,Tryz.results89,go_sem,r2,r3]) rfl ⟨rfl,?_⟩
 exact ((onB HBW.out HB3.out).setCell (by simp;omega) _).setCell (by simp;omega) _
end Go.Proofs.YtfgegmpoejilnaaGreatDoor
namespace Go.Proofs.YtfgegmpoejilnaaGreatDoor
set_option maxRecDepth 20000
def nmB (l:List UInt8):ByteArray:=⟨l.toArray⟩
theorem nmB_list (l:List UInt8):(nmB l).data.toList=l:=by simp [nmB]
theorem nmB_back (s:ByteArray):nmB s.data.toList=s:=by unfold nmB;simp
theorem comp_rise (zs:List (List UInt8)) (hs:zs.Pairwise (fun a b=>a≤b)):(Lib.compact zs).Pairwise (fun a b=>a≤b):=by
 unfold Lib.compact
 have hle:∀ i j,i≤j→j<zs.length→zs.toArray[i]!≤zs.toArray[j]! := fun i j hij hj=>by
  rw [getElem!_pos _ i (by simp;omega),getElem!_pos _ j (by simpa using hj)]
  by_cases e:i=j
  ·subst e;exact List.le_refl _
  ·have:=List.pairwise_iff_getElem.1 hs i j (by omega) hj (by omega)
   simpa using this
 have h:∀ m,m≤zs.length→(Lib.compactUpTo zs.toArray m).Pairwise (fun a b=>a≤b)∧∀ x∈Lib.compactUpTo zs.toArray m,∃ j,j<m∧zs.toArray[j]! = x:=by
  intro m
  induction m with
  | zero=>intro _;exact ⟨by simp [Lib.compactUpTo],fun x hx=>by simp [Lib.compactUpTo] at hx⟩
  | succ m ih =>
   intro hm
   obtain ⟨h1,h2⟩:=ih (by omega)
   rw [Lib.compactUpTo_succ]
   refine ⟨?_,fun x hx=>?_⟩
   ·rw [List.pairwise_append]
    refine ⟨h1,by split <;> simp,fun a ha b hb=>?_⟩
    split at hb
    ·rw [List.mem_singleton.1 hb]
     obtain ⟨j,h3,h4⟩:=h2 a ha
     rw [←h4]
     exact hle j m (by omega) (by omega)
    ·cases hb
   ·rcases List.mem_append.1 hx with hx | hx
    ·obtain ⟨j,h3,h4⟩:=h2 x hx
     exact ⟨j,by omega,h4⟩
    ·split at hx
     ·exact ⟨m,by omega,(List.mem_singleton.1 hx).symm⟩
     ·cases hx
 exact (h _ (Nat.le_refl _)).1
theorem refs_rise {l:List Nd} (h:formErr l=0):∀ i j,i<j→j<(refsP l).length→(refsP l).getD i []<(refsP l).getD j []:=by
 intro i j hij hj
 have hnd:=(refs_once h).1
 have hle:(refsP l).Pairwise (fun a b=>a≤b):=by
  unfold refsP
  rw [if_pos h]
  exact comp_rise _ (srt_le _)
 rw [List.getD_eq_getElem?_getD,List.getD_eq_getElem?_getD,List.getElem?_eq_getElem (by omega:i<_),List.getElem?_eq_getElem hj]
 have h1:=List.pairwise_iff_getElem.1 hle i j (by omega) hj hij
 have h2:=List.pairwise_iff_getElem.1 hnd i j (by omega) hj hij
 simp only [Option.getD_some]
 rcases Std.lt_trichotomy (refsP l)[i] (refsP l)[j] with h3 | h3 | h3
 ·exact h3
 ·exact absurd h3 h2
 ·exact absurd (List.le_antisymm h1 (List.le_of_lt h3)) h2
theorem names_down {l:List Nd} (h:formErr l=0):∀ j,1≤j→j<((refsP l).map nmB).length→downS ((refsP l).map nmB) j=false:=by
 intro j h1 hj
 rw [List.length_map] at hj
 have hr:=refs_rise h (j-1) j (by omega) hj
 have e:∀ k,k<(refsP l).length→(((refsP l).map nmB).getD k noS).toList=(refsP l).getD k []:=fun k hk=>by
  rw [List.getD_eq_getElem?_getD,List.getElem?_map,List.getElem?_eq_getElem hk,List.getD_eq_getElem?_getD,List.getElem?_eq_getElem hk]
  simp only [Option.map_some,Option.getD_some]
  rw [ByteArray.toList_eq,nmB_list]
 unfold downS
 rw [e j hj,e (j-1) (by omega),bytesLess_eq,Bool.or_eq_false_iff]
 refine ⟨decide_eq_false fun h3=>?_,?_⟩
 ·exact absurd (List.lt_trans hr h3) (List.lt_irrefl _)
 ·rw [beq_eq_false_iff_ne]
  intro h3
  rw [h3] at hr
  exact absurd hr (List.lt_irrefl _)
theorem form_value {d:Dm} (hd:(dimErr d).2=0) {i:Nat} (hf:(d.mem i).formula.size≠0) (hm:mErr d i=0) (f:Int→Int×Int) (hok:∀ z∈mNd d i,goodC (f z)) :
  valE (prsL (d.mem i).formula) ((refsP (prsL (d.mem i).formula)).map nmB) (((refsP (prsL (d.mem i).formula)).map (whL d)).map f)=0∧valC (prsL (d.mem i).formula) ((refsP (prsL (d.mem i).formula)).map nmB) (((refsP (prsL (d.mem i).formula)).map (whL d)).map f)=oneV d f i:=by
 have hpe:=mErr_prsE hf hm
 have hfe:=form_read hpe
 obtain ⟨l,hl⟩:∃ l,prsL (d.mem i).formula=l:=⟨_,rfl⟩
 have hmem:∀ x,x∈refsP l↔x∈nmsOf d i:=fun x=>by
  rw [(refs_once (by rw [←hl];exact hfe)).2 x]
  unfold nmsOf
  rw [hl]
 have htre:treF d i=treeOf l (l.length-1):=by unfold treF;rw [hl]
 have htn:∀ s∈refsT (treeOf l (l.length-1)),s.data.toList∈refsP l:=fun s hs=>(hmem _).2 (tre_names hpe (by rw [htre];exact hs))
 rw [hl] at hfe ⊢
 have hck:ckErr ((refsP l).map nmB) (((refsP l).map (whL d)).map f)=0:=by
  refine ck_good (by simp) (fun j hj=>?_) (names_down hfe)
  simp only [List.length_map] at hj
  unfold goodB
  have hz:((refsP l).map (whL d))[j]'(by simpa using hj)∈mNd d i:=(need_names hd hf hm _).2 ⟨_,(hmem _).1 (List.getElem_mem hj),by simp⟩
  have hg:=hok _ hz
  unfold goodC at hg
  rw [List.getD_eq_getElem?_getD,List.getElem?_eq_getElem (by simpa using hj)]
  simp only [Option.getD_some,List.getElem_map] at hg ⊢
  rw [hg]
  rfl
 have hwh:∀ s,s.data.toList∈refsP l→∃ k:Nat,whereS ((refsP l).map nmB) s=(k:Int)∧k<(refsP l).length∧nmB ((refsP l).getD k [])=s:=fun s hs=>by
  rcases where_cases ((refsP l).map nmB) s with ⟨-,h2⟩ | ⟨k,h1,h2,h3⟩
  ·obtain ⟨k,hk,e⟩:=List.getElem_of_mem hs
   refine absurd ?_ (h2 k (by simpa using hk))
   rw [List.getD_eq_getElem?_getD,List.getElem?_map,List.getElem?_eq_getElem hk]
   simp only [Option.map_some,Option.getD_some]
   rw [e,nmB_back]
  ·rw [List.length_map] at h2
   refine ⟨k,h1,h2,?_⟩
   rw [List.getD_eq_getElem?_getD,List.getElem?_map,List.getElem?_eq_getElem h2] at h3
   rw [List.getD_eq_getElem?_getD,List.getElem?_eq_getElem h2]
   exact h3
 have hmiss:missT ((refsP l).map nmB) (treeOf l (l.length-1))=false:=by
  unfold missT
  rw [List.any_eq_false]
  intro s hs
  obtain ⟨k,h1,-,-⟩:=hwh s (htn s hs)
  rw [h1]
  simp
 obtain ⟨e1,e2⟩:=val_all hfe hck
 rw [hmiss] at e1 e2
 refine ⟨e1,e2.trans ?_⟩
 simp only [Bool.false_eq_true,if_false]
 unfold oneV
 rw [if_neg hf,htre]
 refine valG_names _ _ _ _ fun s hs=>?_
 obtain ⟨k,h1,h2,h3⟩:=hwh s (htn s hs)
 unfold refC
 rw [h1,Int.toNat_natCast,List.getD_eq_getElem?_getD,List.getElem?_map,List.getElem?_map,List.getElem?_eq_getElem h2]
 simp only [Option.map_some,Option.getD_some]
 rw [←h3,nmB_list,List.getD_eq_getElem?_getD,List.getElem?_eq_getElem h2]
 rfl
theorem parts_value {d:Dm} {i:Nat} (hf:(d.mem i).formula.size=0) (f:Int→Int×Int):partsV d.mem f (mNd d i)=oneV d f i:=by
 unfold partsV oneV
 rw [if_pos hf,←parts_need hf]
 have hall:∀ (P:List Int) (c:Int×Int),(P.filter (sgB d)).foldl (partStep d.mem f) c=P.foldl (partStep d.mem f) c:=by
  intro P
  induction P with
  | nil=>intro c;rfl
  | cons x r ih =>
   intro c
   rw [List.filter_cons,List.foldl_cons]
   by_cases hs:sgB d x=true
   ·rw [if_pos hs,List.foldl_cons,ih]
   ·rw [if_neg hs,ih]
    have h0:(d.mem x.toNat).sign=0:=by unfold sgB at hs;simpa using hs
    have e:partStep d.mem f c x=c:=by unfold partStep;rw [if_neg (by omega),if_neg (by omega)]
    rw [e]
 exact hall _ _
theorem good_one {d:Dm} (hd:(dimErr d).2=0) {i:Nat} (hm:mErr d i=0) (f:Int→Int×Int) (hok:∀ z∈mNd d i,goodC (f z)):goodC (oneV d f i):=by
 by_cases hf:(d.mem i).formula.size=0
 ·rw [←parts_value hf]
  exact good_parts _ _ _
 ·have hpe:=mErr_prsE hf hm
  unfold oneV
  rw [if_neg hf]
  have hall:∀ t:Tre,(∀ s∈refsT t,goodC (f (whL d s.data.toList)))→goodC (valG (fun s=>f (whL d s.data.toList)) t):=by
   intro t
   induction t with
   | num n=>intro _;exact good_ofP n
   | ref s=>intro h;exact h s (by simp [refsT])
   | bin o a b _ _=>intro _;exact opP_ok o _ _
  exact hall _ fun s hs=>hok _ ((need_names hd hf hm _).2 ⟨_,tre_names hpe hs,rfl⟩)
theorem good_sol {D:Nat→Dm} {n:Nat} (hR:AllR D n) {inp:List Int→Int×Int} (hg:∀ p,goodC (inp p)):∀ (m:Nat) (p:List Int),InO D n p→msrTo D p n<m→goodC (solV D n inp p):=by
 intro m
 induction m with
 | zero=>intro p _ h;omega
 | succ m ih =>
  intro p hp hm
  rcases by_in D p n with h | ⟨b,h1,h2⟩
  ·rw [sol_leaf inp (by omega)]
   exact hg p
  ·rw [sol_by hR inp hp h1]
   obtain ⟨hd,hme,-,-⟩:=rErr_right (hR b h2)
   have hp0:=hp.lo b h2
   have hp1:=hp.hi b h2
   refine good_one hd (hme _ (by omega)) _ fun z hz=>?_
   have hxi:=mNd_in hz
   have hrk:=rk_less (hR b h2) (i:=(p.getD b 0).toNat) (by omega) hz
   rw [Int.toNat_of_nonneg hp0] at hrk
   have hms:=(msr_less (by rw [hp.len];exact h2) hrk n).2 h2
   exact ih _ (inO_set hp h2 hxi.1 hxi.2) (by omega)
end Go.Proofs.YtfgegmpoejilnaaGreatDoor
