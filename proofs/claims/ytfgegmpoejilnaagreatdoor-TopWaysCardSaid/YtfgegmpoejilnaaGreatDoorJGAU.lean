/-
  What the closures, refs and member of package rules answer, in whatever memory: whom a member needs, or what is wrong with its formula.
-/
import Derived.Test.YtfgegmpoejilnaaGreatDoorJGAR
import Derived.Test.YtfgegmpoejilnaaGreatDoorJGAS
namespace Go.Proofs.YtfgegmpoejilnaaGreatDoor
open Go.ChangeShapes Go.WideShapes Go.ChangeAt Go.RowKit
open Go.Sort (putRow Holds grow holds_putRow)
set_option maxRecDepth 20000
theorem whL_same (d:Dm) (s:ByteArray):findFrom (fun j=>same (d.mem j).name s) d.n 0=whL d s.data.toList:=by
 unfold whL
 rw [Array.toArray_toList]
theorem is1_in:EntersO 178:=fun args w=>by simp [callFunc,Tryz.func178];rfl
theorem is1_any (m:Mem) (s:ByteArray) (q:Nat) (w:World) (hq:q<w.heap.size) (h:w.cell? ⟨q,0,none⟩=some (.string s)):Calls Tryz.prog 178 #[memV m,.pointer (some ⟨q,0,none⟩)] w fun e w'=>e=.returned (.bool (same m.name s))∧Below w.heap.size w w':=by
 unfold memV
 go_enter Tryz.func178,Tryz.ntmps178
 go_wp2_with fail
 go_ret
 exact ⟨by simp [same],by go_grown⟩
theorem is_any (d:Dm) (b o cap q:Nat) (s:ByteArray) (w:World) (hn:d.n≤12) (hM:MemsAt w b o d.n d.mem) (hq:q<w.heap.size) (hc:w.cell? ⟨q,2,none⟩=some (.slice (some ⟨b,o,none⟩) d.n cap)) :
  Calls Tryz.prog 177 #[.string s,.pointer (some ⟨q,0,none⟩)] w fun e w'=>e=.returned (.int .i64 (whL d s.data.toList))∧Below w.heap.size w w':=by
 obtain ⟨W,hW⟩:∃ W,w.alloc (.cells #[.string s] 9)=W:=⟨_,rfl⟩
 have hB0:Below w.heap.size w W:=by rw [←hW];exact (Below.refl _ _).alloc (Nat.le_refl _) _
 have hs0:W.heap.size=w.heap.size+1:=by rw [←hW];simp
 have hc0:W.cell? ⟨w.heap.size,0,none⟩=some (.string s):=by
  have h:W.heap[w.heap.size]?=some (.cells #[.string s] 9 (0,0)):=by rw [←hW];exact heap_alloc_new _ _
  rw [Lib.cell_of_heap h]
  rfl
 have hc2:=(hB0.cell (p:=⟨q,2,none⟩) hq).trans hc
 have hix:=index_mems 178 w.heap.size is1_in b o d.n cap d.mem (fun j=>same (d.mem j).name s) W hn (hM.later hB0) (fun j w' _ hw'=>is1_any (d.mem j) s w.heap.size w' (by have:=hw'.size;omega) ((hw'.cell (p:=⟨w.heap.size,0,none⟩) (by show w.heap.size<_;omega)).trans hc0))
 rw [whL_same] at hix
 generalize whL d s.data.toList=r at hix ⊢
 have HB0:Hid (Below w.heap.size w W):=hB0
 clear hM hc hB0 hs0 hc0
 go_enter Tryz.func177,Tryz.ntmps177
 go_wp2_with fail
 refine hix.mono ?_
 rintro e w1 ⟨rfl,hb1⟩
 go_wp2_with fail
 go_ret
 exact ⟨rfl,onB HB0.out hb1⟩
set_option maxHeartbeats 1000000 in
theorem indexs_any (F:Nat) (cap:Array Value) (p:List UInt8→Bool) (hent:∀ (args:Array Value) (w:World),(callFunc F args).run Tryz.prog w=.ok (.enter F args) w) (A:Option Addr) (c:Nat) (L:List (List UInt8)) (w:World) (hn:L.length≤200) (hL:StrsV w A c L)
  (hF:∀ (x:List UInt8) (w':World),Below w.heap.size w w'→Calls Tryz.prog F (#[.string ⟨x.toArray⟩] ++ cap) w' fun e w''=>e=.returned (.bool (p x))∧Below w'.heap.size w' w'') :
  Calls Tryz.prog 221 #[.slice A L.length c,.func (.func F) #[] cap] w fun e w'=>e=.returned (.int .i64 (findFrom (fun j=>p (L.getD j [])) L.length 0))∧Below w.heap.size w w':=by
 obtain ⟨hc,-,h0 | ⟨b,o,rfl,hbw,hcell⟩⟩:=hL
 ·subst h0
  simp only [List.length_nil]
  go_enter Tryz.func221,Tryz.ntmps221
  go_wp2_with fail
  refine wp_loop_rounds 1 ?_
  rw [rounds_succ]
  go_wp2_with fail
  go_ret
  exact ⟨rfl,Below.refl _ _⟩
 ·have HC:Hid (∀ j,j<L.length→w.cell? ⟨b,o+j,none⟩=some (.string ⟨(L.getD j []).toArray⟩)):=hcell
  have HF:Hid (∀ (x:List UInt8) (w':World),Below w.heap.size w w'→Calls Tryz.prog F (#[.string ⟨x.toArray⟩] ++ cap) w' fun e w''=>e=.returned (.bool (p x))∧Below w'.heap.size w' w''):=hF
  obtain ⟨pj,hpj⟩:∃ pj:Nat→Bool,pj=fun j=>p (L.getD j []):=⟨_,rfl⟩
  have HP:Hid (∀ j,pj j=p (L.getD j [])):=fun j=>by rw [hpj]
  rw [←hpj]
  generalize hnn:L.length=n at hn hc HC
  clear hcell hpj hnn hF
  go_enter Tryz.func221,Tryz.ntmps221
  go_wp2_with fail
  go_loopg [8] n (fun g s8 wr => ∃ (k:Nat),k≤n∧g=n-k∧s8=.int .i64 k∧findFrom pj (n-k) k=findFrom pj n 0∧Below w.heap.size w wr)
  case atStart=>exact ⟨0,Nat.zero_le _,rfl,rfl,rfl,Below.refl _ _⟩
  case round =>
   obtain ⟨k,hk,rfl,rfl,hf,hBw⟩:=hrel
   have HQ:Hid (findFrom pj (n-k) k=findFrom pj n 0):=hf
   have HW:Hid (Below w.heap.size w wr):=hBw
   clear hf
   by_cases hlt:k<n
   ·have hki:(k:Int)<(n:Int):=by omega
    have hcx:=(hBw.cell (p:=⟨b,o+k,none⟩) hbw).trans (HC.out k hlt)
    have hn':(n:Int)≤200:=by omega
    have hpk:=HP.out k
    have HSK:Hid (n-k=(n-(k+1))+1):=by show _=_;omega
    have hbd:=HF.out (L.getD k []) wr hBw
    rw [←hpk] at hbd
    generalize (⟨(L.getD k []).toArray⟩:ByteArray)=x at hcx hbd
    clear hBw hpk
    cases hb:pj k
    ·rw [hb] at hbd
     have HK:Hid (pj k=false):=hb
     clear hb
     go_wp2_with fail
     refine hbd.mono ?_
     rintro e w1 ⟨rfl,hb1⟩
     go_wp2_with fail
     go_roundg (n-(k+1))
     case measure=>omega
     case rel=>exact ⟨k+1,by omega,rfl,by go_num,by rw [←HQ.out,HSK.out,findFrom_miss _ HK.out],onB HW.out hb1⟩
    ·rw [hb] at hbd
     have HK:Hid (pj k=true):=hb
     clear hb
     go_wp2_with fail
     refine hbd.mono ?_
     rintro e w1 ⟨rfl,hb1⟩
     go_wp2_with fail
     go_ret
     exact ⟨by rw [←HQ.out,HSK.out,findFrom_hit _ HK.out];rfl,onB HW.out hb1⟩
   ·have hke:k=n:=by omega
    subst hke
    go_wp2_with fail
    go_ret
    exact ⟨by rw [←HQ.out,Nat.sub_self];rfl,HW.out⟩
theorem any_findS (p:List UInt8→Bool) (L:List (List UInt8)):decide (0≤findFrom (fun j=>p (L.getD j [])) L.length 0)=L.any p:=by
 rcases findFrom_cases (fun j=>p (L.getD j [])) L.length 0 with ⟨h1,h2⟩ | ⟨m,h1,_,h3,h4,_⟩
 ·rw [h1,decide_eq_false (by omega)]
  symm
  rw [List.any_eq_false]
  intro x hx
  obtain ⟨i,hi,rfl⟩:=List.getElem_of_mem hx
  have:=h2 i (Nat.zero_le _) (by omega)
  simp only [List.getD,List.getElem?_eq_getElem hi,Option.getD_some] at this
  simp [this]
 ·rw [h1,decide_eq_true (by omega)]
  symm
  rw [List.any_eq_true]
  have hm:m<L.length:=by omega
  refine ⟨L[m],List.getElem_mem hm,?_⟩
  simpa only [List.getD,List.getElem?_eq_getElem hm,Option.getD_some] using h4
theorem scontf_any (F:Nat) (cap:Array Value) (p:List UInt8→Bool) (hent:∀ (args:Array Value) (w:World),(callFunc F args).run Tryz.prog w=.ok (.enter F args) w) (A:Option Addr) (c:Nat) (L:List (List UInt8)) (w:World) (hn:L.length≤200) (hL:StrsV w A c L)
  (hF:∀ (x:List UInt8) (w':World),Below w.heap.size w w'→Calls Tryz.prog F (#[.string ⟨x.toArray⟩] ++ cap) w' fun e w''=>e=.returned (.bool (p x))∧Below w'.heap.size w' w'') :
  Calls Tryz.prog 205 #[.slice A L.length c,.func (.func F) #[] cap] w fun e w'=>e=.returned (.bool (L.any p))∧Below w.heap.size w w':=by
 have h:=indexs_any F cap p hent A c L w hn hL hF
 rw [←any_findS]
 generalize findFrom (fun j=>p (L.getD j [])) L.length 0=r at *
 clear hF hL
 go_enter Tryz.func205,Tryz.ntmps205
 go_wp2_with fail
 refine h.mono ?_
 rintro e w1 ⟨rfl,hb1⟩
 go_wp2_with fail
 go_ret
 exact ⟨rfl,hb1⟩
def IsF (d:Dm) (q:Nat) (w:World):Prop := ∀ (s:ByteArray) (w':World),Below w.heap.size w w'→Calls Tryz.prog 177 #[.string s,.pointer (some ⟨q,0,none⟩)] w' fun e w''=>e=.returned (.int .i64 (whL d s.data.toList))∧Below w'.heap.size w' w''
theorem IsF.later {d:Dm} {q:Nat} {w w1:World} (h:IsF d q w) (hB:Below w.heap.size w w1):IsF d q w1:=fun s w' hB'=>h s w' (onB hB hB')
def isV (q:Nat):Value:=.func (.func 177) #[] #[.pointer (some ⟨q,0,none⟩)]
theorem ent_refs1 (args:Array Value) (w:World):(callFunc 206 args).run Tryz.prog w=.ok (.enter 206 args) w:=by simp [go_sem]
theorem refs1_any (d:Dm) (q r:Nat) (x:List UInt8) (w:World) (hI:IsF d q w) (hr:w.cell? ⟨r,0,none⟩=some (isV q)):Calls Tryz.prog 206 #[.string ⟨x.toArray⟩,.pointer (some ⟨r,0,none⟩)] w fun e w'=>e=.returned (.bool (decide (whL d x<0)))∧Below w.heap.size w w':=by
 have h:=hI ⟨x.toArray⟩ w (Below.refl _ _)
 rw [show (⟨x.toArray⟩:ByteArray).data.toList=x by simp] at h
 generalize whL d x=r1 at *
 generalize (⟨x.toArray⟩:ByteArray)=s at *
 unfold isV at hr
 clear hI
 go_enter Tryz.func206,Tryz.ntmps206
 go_wp2_with fail
 refine h.mono ?_
 rintro e w1 ⟨rfl,hb1⟩
 go_wp2_with fail
 go_ret
 exact ⟨rfl,hb1⟩
def rfE (d:Dm) (s:ByteArray):Int:=if prsE s≠0 then prsE s else if (nmsTo (prsL s) (prsL s).length).any (fun nm=>decide (whL d nm<0))=true then 5 else 0
def rfL (d:Dm) (s:ByteArray):List Int:=if rfE d s=0 then ((refsP (prsL s)).map (whL d)).mergeSort (fun x y=>decide (x≤y)) else []
theorem rf0 {d:Dm} {s:ByteArray} (h:prsE s≠0):rfE d s=prsE s∧rfL d s=[]:=by
 have e:rfE d s=prsE s:=by unfold rfE;rw [if_pos h]
 exact ⟨e,by unfold rfL;rw [e,if_neg h]⟩
theorem any_refs {l:List Nd} (h:formErr l=0) (p:List UInt8→Bool):(refsP l).any p=(nmsTo l l.length).any p:=by
 obtain ⟨-,h2⟩:=refs_once h
 rw [Bool.eq_iff_iff,List.any_eq_true,List.any_eq_true]
 constructor
 ·rintro ⟨x,hx,hp⟩;exact ⟨x,(h2 x).1 hx,hp⟩
 ·rintro ⟨x,hx,hp⟩;exact ⟨x,(h2 x).2 hx,hp⟩
theorem rf1 {d:Dm} {s:ByteArray} (h:prsE s=0) (ha:(refsP (prsL s)).any (fun nm=>decide (whL d nm<0))=true):rfE d s=5∧rfL d s=[]:=by
 rw [any_refs (form_read h)] at ha
 have e:rfE d s=5:=by unfold rfE;rw [if_neg (by simpa using h),if_pos ha]
 exact ⟨e,by unfold rfL;rw [e,if_neg (by decide)]⟩
theorem rf2 {d:Dm} {s:ByteArray} (h:prsE s=0) (ha:(refsP (prsL s)).any (fun nm=>decide (whL d nm<0))=false):rfE d s=0∧rfL d s=((refsP (prsL s)).map (whL d)).mergeSort (fun x y=>decide (x≤y)):=by
 rw [any_refs (form_read h)] at ha
 have e:rfE d s=0:=by unfold rfE;rw [if_neg (by simpa using h),if_neg (by rw [ha];decide)]
 exact ⟨e,by unfold rfL;rw [if_pos e]⟩
theorem refs_len {l:List Nd} (h:formErr l=0):(refsP l).length≤30:=by
 obtain ⟨-,hl,-⟩:=form_right h
 unfold refsP
 rw [if_pos h]
 refine Nat.le_trans (compact_len _) ?_
 rw [List.length_mergeSort]
 exact Nat.le_trans (nms_len _ _) hl
theorem put_offI {w:World} {g k:Nat} {d:Array Int} (h:k≠g):(putRow (Value.int .i64) w g 0 d).heap[k]?=w.heap[k]?:=by
 unfold putRow Sort.mapBlock
 simp only [Array.getElem?_modify]
 rw [if_neg (fun e=>h e.symm)]
theorem sorted_belowI {w0 w:World} {g n:Nat} {d:Array Int} {os:Array Obj} (h:Below w0.heap.size w0 w) (hg:w0.heap.size≤g):Below w0.heap.size w0 (grow (putRow (Value.int .i64) (Sort.ahead w n) g 0 d) os):=by
 refine ⟨h.os,h.tape,h.output,by have:=h.size;simp;omega,fun k hk=>?_⟩
 have hs:=h.size
 rw [Sort.heap_grow_old _ _ (by simp;omega),put_offI (by omega)]
 exact h.block k hk
theorem sorted_intT {w:World} {g n c:Nat} {zs ys:List Int} {cur:Array Value} {fr:Nat×Nat} {os:Array Obj} (hg:w.heap[g]?=some (.cells cur 3 fr)) (hH:Holds (Value.int .i64) w g 0 zs.toArray) (hl:ys.length=zs.length) (hc:zs.length≤c) (hc2:c≤9223372036854775807) :
  IntT (grow (putRow (Value.int .i64) (Sort.ahead w n) g 0 ys.toArray) os) (some ⟨g,0,none⟩) c ys:=by
 have hlt:g<w.heap.size:=(Array.getElem?_eq_some_iff.1 hg).1
 have hb:(grow (putRow (Value.int .i64) (Sort.ahead w n) g 0 ys.toArray) os).heap[g]?=some (.cells (Sort.putCells (Value.int .i64) 0 ys.toArray cur) 3 fr):=by
  rw [Sort.heap_grow_old _ _ (by simpa using hlt)]
  unfold putRow Sort.mapBlock
  have hg2:(Sort.ahead w n).heap[g]?=some (.cells cur 3 fr):=hg
  simp only [Array.getElem?_modify,if_true,hg2,Option.map_some]
  rfl
 have hH2:=Sort.holds_grow (Value.int .i64) _ os g 0 _ (by simpa using hlt) (holds_putRow (Value.int .i64) (Sort.ahead w n) g 0 zs.toArray ys.toArray hH (by simp [hl]))
 refine ⟨by omega,hc2,Or.inr ⟨g,_,_,rfl,hb,fun j hj=>?_⟩⟩
 have h:=(hH2 j (by simpa using hj)).1
 rw [Nat.zero_add] at h
 rw [h,getElem!_pos _ j (by simpa using hj)]
 simp [List.getD,List.getElem?_eq_getElem hj]
theorem map_one (d:Dm) (L:List (List UInt8)) {k:Nat} (h:k<L.length):(L.take (k+1)).map (whL d)=(L.take k).map (whL d) ++ [whL d (L.getD k [])]:=by
 rw [List.take_succ_eq_append_getElem h,List.map_append,List.getD_eq_getElem?_getD,List.getElem?_eq_getElem h]
 rfl
set_option maxHeartbeats 4000000 in
theorem refs_any (d:Dm) (q:Nat) (s:ByteArray) (w:World) (hs:s.size≤100) (hI:IsF d q w) :
  Calls Tryz.prog 176 #[.string s,isV q] w fun e w'=>(∃ A' c',e=.returned (.tuple #[.slice A' (rfL d s).length c',errV (rfE d s)])∧IntT w' A' c' (rfL d s))∧Below w.heap.size w w':=by
 obtain ⟨i0,hi0,hz0,hz1,hz2⟩:=info_parts Tryz.infoInt
 obtain ⟨W,hW⟩:∃ W,w.alloc (.cells #[isV q] 234)=W:=⟨_,rfl⟩
 have hB0:Below w.heap.size w W:=by rw [←hW];exact (Below.refl _ _).alloc (Nat.le_refl _) _
 have hs0:W.heap.size=w.heap.size+1:=by rw [←hW];simp
 have hc0:W.cell? ⟨w.heap.size,0,none⟩=some (isV q):=by
  have h:W.heap[w.heap.size]?=some (.cells #[isV q] 234 (0,0)):=by rw [←hW];exact heap_alloc_new _ _
  rw [Lib.cell_of_heap h]
  rfl
 have hpr:=fparse_v s W hs
 have HI:Hid (IsF d q w):=hI
 have HB0:Hid (Below w.heap.size w W):=hB0
 have HC0:Hid (W.cell? ⟨w.heap.size,0,none⟩=some (isV q)):=hc0
 have HS0:Hid (W.heap.size=w.heap.size+1):=hs0
 have HRf:Hid (∀ w',Below W.heap.size W w'→∀ x,Calls Tryz.prog 206 #[.string ⟨x.toArray⟩,.pointer (some ⟨w.heap.size,0,none⟩)] w' fun e w''=>e=.returned (.bool (decide (whL d x<0)))∧Below w'.heap.size w' w''):=fun w' hB x =>
  refs1_any d q w.heap.size x w' (hI.later (onB hB0 hB)) ((hB.cell (p:=⟨w.heap.size,0,none⟩) (by show w.heap.size<_;omega)).trans hc0)
 unfold isV at hW ⊢
 clear hB0 hs0 hc0 hI
 by_cases hpe:prsE s=0
 case neg =>
  obtain ⟨e1,e2⟩:=rf0 (d:=d) hpe
  rw [e1,e2]
  have HE:Hid (errV (prsE s)=.iface 95 (.int .i64 (prsE s))):=errV_some hpe
  rw [errV_some hpe] at hpr ⊢
  generalize (prsL s).length=m at hpr
  generalize (prsA s:Int)=at' at hpr
  generalize prsE s=ec at hpr
  clear hpe e1 e2
  go_enter Tryz.func176,Tryz.ntmps176
  go_wp2_with fail
  refine hpr.mono ?_
  rintro e w1 ⟨⟨A1,c1,rfl,-⟩,hb1⟩
  go_wp2_with fail
  go_ret2
  exact ⟨⟨none,0,rfl,IntT.nil _ _ _ (by omega)⟩,onB HB0.out hb1⟩
 have hfe:=form_read hpe
 have hrl:=refs_len hfe
 have HPe:Hid (prsE s=0):=hpe
 have hrf:=fun A c w' hN=>frefs_v A c (prsL s) w' hN
 rw [hfe,errV_zero] at hrf
 rw [hpe,errV_zero] at hpr
 obtain ⟨L,hL⟩:∃ L,refsP (prsL s)=L:=⟨_,rfl⟩
 have HL:Hid (refsP (prsL s)=L):=hL
 rw [hL] at hrl hrf
 obtain ⟨l,hl⟩:∃ l,prsL s=l:=⟨_,rfl⟩
 rw [hl] at hpr hrf
 generalize (prsA s:Int)=at' at hpr
 obtain ⟨n,hn⟩:∃ n,L.length=n:=⟨_,rfl⟩
 have HN:Hid (L.length=n):=hn
 have HRfs:Hid (∀ A c w',NdsV w' A c l→Calls Tryz.prog 147 #[.slice A l.length c] w' fun e w''=>(∃ A' c',e=.returned (.tuple #[.slice A' n c',.nilIface])∧StrsV w'' A' c' L)∧Below w'.heap.size w' w''):=fun A c w' h=>by rw [←hn];exact hrf A c w' h
 generalize l.length=m at hpr HRfs
 rw [hn] at hrl
 have hnI:(n:Int)≤30:=by omega
 clear hpe hfe hL hl hn hrf
 go_enter Tryz.func176,Tryz.ntmps176
 go_wp2_with fail
 refine hpr.mono ?_
 rintro e w1 ⟨⟨A1,c1,rfl,hN1⟩,hb1⟩
 have hrf:=HRfs.out A1 c1 w1 hN1
 have HB1:Hid (Below W.heap.size W w1):=hb1
 clear hpr hN1 hb1
 go_wp2_with fail
 refine hrf.mono ?_
 rintro e w2 ⟨⟨A2,c2,rfl,hS2⟩,hb2⟩
 have HB2:Hid (Below W.heap.size W w2):=onB HB1.out hb2
 have HS2:Hid (StrsV w2 A2 c2 L):=hS2
 have hct:=scontf_any 206 #[.pointer (some ⟨w.heap.size,0,none⟩)] (fun x=>decide (whL d x<0)) ent_refs1 A2 c2 L w2 (by have:=HN.out;omega) hS2 fun x w' hB=>HRf.out w' (onB HB2.out hB) x
 rw [HN.out] at hct
 obtain ⟨ra,hra⟩:∃ ra,L.any (fun x=>decide (whL d x<0))=ra:=⟨_,rfl⟩
 have HRa:Hid (L.any (fun x=>decide (whL d x<0))=ra):=hra
 rw [hra] at hct
 clear hrf hb2 hS2 hra
 go_wp2_with fail
 refine hct.mono ?_
 rintro e w3 ⟨rfl,hb3⟩
 have HB3:Hid (Below W.heap.size W w3):=onB HB2.out hb3
 have HS3:Hid (StrsV w3 A2 c2 L):=HS2.out.later hb3
 clear hct hb3
 cases ra
 case true =>
  go_wp2_with fail
  go_ret2
  obtain ⟨e1,e2⟩:=rf1 (d:=d) HPe.out (by rw [HL.out];exact HRa.out)
  rw [e1,e2]
  exact ⟨⟨none,0,rfl,IntT.nil _ _ _ (by omega)⟩,onB HB0.out HB3.out⟩
 go_wp2_with fail
 go_loopg [10,36] n (fun g s10 s36 wr => ∃ (k:Nat) (v:Value),k≤n∧g=n-k∧s36=.int .i64 k∧v=s10∧wr.ownsRow w3.heap.size 3 1 v k (mapI ((L.take k).map (whL d)))∧Below w3.heap.size w3 wr)
 case atStart=>exact ⟨0,_,Nat.zero_le _,rfl,rfl,rfl,World.ownsRow_nil _ _ _ _,Below.refl _ _⟩
 case round =>
  obtain ⟨k,v,hk,rfl,rfl,rfl,hO,hBw⟩:=hrel
  have HO:Hid (wr.ownsRow w3.heap.size 3 1 v k (mapI ((L.take k).map (whL d)))):=hO
  have HBw:Hid (Below w3.heap.size w3 wr):=hBw
  by_cases hlt:k<n
  ·have hki:(k:Int)<(n:Int):=by omega
   obtain ⟨hcS,-,hS0 | ⟨b,o,rfl,hbS,hcl⟩⟩:=HS3.out.later hBw
   ·have:=HN.out;rw [hS0] at this;simp at this;omega
   have cx:=hcl k (by rw [HN.out];exact hlt)
   rw [HN.out] at hcS
   have HNx:Hid ((L.take (k+1)).map (whL d)=(L.take k).map (whL d) ++ [whL d (L.getD k [])]):=map_one d L (by rw [HN.out];exact hlt)
   have hcall:=HI.out ⟨(L.getD k []).toArray⟩ wr (onB HB0.out (onB HB3.out hBw))
   rw [show (⟨(L.getD k []).toArray⟩:ByteArray).data.toList=L.getD k [] by simp] at hcall
   have hWr:=onB HB3.out hBw
   have cb:wr.cell? ⟨w.heap.size,0,none⟩=some (isV q):=(hWr.cell (p:=⟨w.heap.size,0,none⟩) (by show w.heap.size<_;rw [HS0.out];omega)).trans HC0.out
   have hbz:w.heap.size<wr.heap.size:=by have:=hWr.size;rw [HS0.out] at this;omega
   unfold isV at cb
   generalize whL d (L.getD k [])=y at hcall HNx
   generalize (⟨(L.getD k []).toArray⟩:ByteArray)=x at cx hcall
   clear hcl hO hBw hWr
   go_wp2_with fail
   refine hcall.mono ?_
   rintro e w4 ⟨rfl,hb4⟩
   have hB4:Below w3.heap.size w3 w4:=onB HBw.out hb4
   have HB4:Hid (Below w3.heap.size w3 w4):=hB4
   have HO4:Hid (w4.ownsRow w3.heap.size 3 1 v k (mapI ((L.take k).map (whL d)))):=own_later HO.out hb4
   have hsz:=hB4.size
   clear hb4 hcall hB4
   go_wp2_with (at_builtin;refine wpList_append_own _ rfl _ _ 38 rfl w3.heap.size 3 i0 (.int .i64 0) 1 8 Tryz.underlying38 hi0 hz0 hz1 hz2 rfl (by decide) _ _ _ rfl (HO4.out.alloc _) ⟨w4.heap.size,0,none⟩ 1 1 [.int .i64 y] rfl rfl one_cell one_one (by unfold maxLen;omega) (by omega) (by simp;omega) ?_)
   intro v' w5 hown' hgrow _
   have HB5:Hid (Below w3.heap.size w3 w5):=grown_own HB4.out HO4.out hgrow
   have HO5:Hid (w5.ownsRow w3.heap.size 3 1 v' (k+1) (mapI ((L.take (k+1)).map (whL d)))):=by
    show World.ownsRow ..
    rw [HNx.out,mapI_snoc,List.map_take];exact hown'
   clear hown' hgrow
   go_wp2_with fail
   go_roundg (n-(k+1))
   case measure=>omega
   case rel=>exact ⟨k+1,_,by omega,rfl,by go_num,rfl,HO5.out,HB5.out⟩
  ·have hke:k=n:=by omega
   subst hke
   have hL0:L.take k=L:=List.take_of_length_le (by rw [HN.out];exact Nat.le_refl _)
   obtain ⟨e1,e2⟩:=rf2 (d:=d) HPe.out (by rw [HL.out];exact HRa.out)
   rw [HL.out] at e2
   have HE1:Hid (rfE d s=0):=e1
   have hO':=hO
   rw [hL0] at hO'
   obtain ⟨zs,hzs⟩:∃ zs,L.map (whL d)=zs:=⟨_,rfl⟩
   have hzl:zs.length=k:=by rw [←hzs,List.length_map];exact HN.out
   rw [hzs] at e2 hO'
   have HE2:Hid (rfL d s=zs.mergeSort fun x y=>decide (x≤y)):=e2
   have HZl:Hid (zs.length=k):=hzl
   clear hO HO hL0 e1 e2 hzs
   by_cases hz:v=.slice none 0 0
   ·subst hz
    have hk0:k=0:=by
     rcases hO'.2 with ⟨_,h⟩ | ⟨g,c,cur,h,_⟩
     ·exact h
     ·cases h
    subst hk0
    have HZ0:Hid (rfL d s=[]):=by
     show _=_
     rw [HE2.out,List.eq_nil_of_length_eq_zero hzl,List.mergeSort_nil]
    have hso:=Any.slices_Sort_int_none Tryz.lays189 none 0 wr
    clear hO' hBw hzl
    go_wp2_with fail
    refine Calls.mono hso ?_
    rintro e w4 ⟨rfl,rfl⟩
    go_wp2_with fail
    go_ret2
    rw [HE1.out,HZ0.out]
    exact ⟨⟨none,0,rfl,IntT.nil _ _ _ (by omega)⟩,onB HB0.out (onB HB3.out HBw.out)⟩
   ·obtain ⟨g,c,hv,hgb,hgl,hnc,hcm,-,hH⟩:=Lib.holds_of_ownsRow (enc:=Value.int .i64) (zs:=zs) hO' hz
    subst hv
    obtain ⟨cur,hg⟩:∃ cur:Array Value,wr.heap[g]?=some (.cells cur 3 (0,0)):=by
     rcases hO'.2 with ⟨h,_⟩ | ⟨g',c',cur,h,_,hg,_⟩
     ·cases h
     ·cases h;exact ⟨cur,hg⟩
    have hso:=Any.slices_Sort_int Tryz.lays189 g 0 c zs wr hH hgl (by omega)
    rw [hzl] at hso
    have HT:Hid (∀ q2 os,IntT (grow (putRow (Value.int .i64) (Sort.ahead wr q2) g 0 (zs.mergeSort fun x y=>decide (x≤y)).toArray) os) (some ⟨g,0,none⟩) c (rfL d s)):=fun q2 os=>by
     rw [HE2.out]
     exact sorted_intT hg hH (by rw [List.length_mergeSort]) (by omega) (by unfold maxLen at hcm;omega)
    have HBs:Hid (∀ q2 os,Below w.heap.size w (grow (putRow (Value.int .i64) (Sort.ahead wr q2) g 0 (zs.mergeSort fun x y=>decide (x≤y)).toArray) os)):=fun q2 os=>by
     have hBW:=onB HB3.out hBw
     have h0:=onB HB0.out hBW
     refine sorted_belowI h0 ?_
     have:=HB0.out.size
     have:=HB3.out.size
     omega
    have HLl:Hid ((rfL d s).length=k):=by show _=_;rw [HE2.out,List.length_mergeSort];exact hzl
    generalize (zs.mergeSort fun x y=>decide (x≤y))=ys at hso HT HBs
    clear hO' hBw hzl hH hg
    go_wp2_with fail
    refine Calls.mono hso ?_
    rintro e w4 ⟨rfl,q2,os,hw4⟩
    have HT4:Hid (IntT w4 (some ⟨g,0,none⟩) c (rfL d s)):=by rw [hw4];exact HT.out q2 os
    have HB4:Hid (Below w.heap.size w w4):=by rw [hw4];exact HBs.out q2 os
    clear hw4 hso
    go_wp2_with fail
    go_ret2
    rw [HE1.out]
    exact ⟨⟨_,c,by rw [HLl.out];rfl,HT4.out⟩,HB4.out⟩
end Go.Proofs.YtfgegmpoejilnaaGreatDoor
