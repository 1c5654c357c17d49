/-
  How a member is told, as package solve lays it out: byParts, byFormula, wayOf, in whatever memory.
-/
import Derived.Test.YtfgegmpoejilnaaGreatDoorJGAV
namespace Go.Proofs.YtfgegmpoejilnaaGreatDoor
open Go.ChangeShapes Go.WideShapes Go.ChangeAt Go.RowKit
set_option maxRecDepth 20000
structure WL where
 lf:Bool
 nd:List Nd
 An:Option Addr
 cn:Nat
 nm:List (List UInt8)
 As:Option Addr
 cs:Nat
 ne:List Int
 Ai:Option Addr
 ci:Nat
 sg:List Int
 Ag:Option Addr
 cg:Nat
def noW:WL:=⟨false,[],none,0,[],none,0,[],none,0,[],none,0⟩
def cellsW1 (x:WL):List Value:=[.bool x.lf,.slice x.An x.nd.length x.cn,.slice x.As x.nm.length x.cs,.slice x.Ai x.ne.length x.ci,.slice x.Ag x.sg.length x.cg]
def wayV (x:WL):Value:=.agg #[.bool x.lf,.slice x.An x.nd.length x.cn,.slice x.As x.nm.length x.cs,.slice x.Ai x.ne.length x.ci,.slice x.Ag x.sg.length x.cg]
def WayT (w:World) (x:WL):Prop:=NdsT w x.An x.cn x.nd∧StrT w x.As x.cs x.nm∧IntT w x.Ai x.ci x.ne∧IntT w x.Ag x.cg x.sg
theorem way_ne_nd:(212:Nat)≠130:=by decide
theorem way_ne_str:(9:Nat)≠130:=by decide
theorem way_ne_int:(3:Nat)≠130:=by decide
theorem ax_ne_nd:(212:Nat)≠116:=by decide
theorem ax_ne_str:(9:Nat)≠116:=by decide
theorem ax_ne_int:(3:Nat)≠116:=by decide
theorem ax_ne_way:(130:Nat)≠116:=by decide
def OffT (T:Nat) (w w':World):Prop := ∀ (b:Nat) (cs:Array Value) (t:Nat) (fr:Nat×Nat),w.heap[b]?=some (Obj.cells cs t fr)→t≠T→w'.heap[b]?=w.heap[b]?
theorem WayT.keepW {w w':World} {x:WL} (h:WayT w x) (hB:OffT 130 w w'):WayT w' x :=
 ⟨h.1.keep fun b cs fr hb=>hB b cs _ fr hb way_ne_nd,h.2.1.keep fun b cs fr hb=>hB b cs _ fr hb way_ne_str,h.2.2.1.keep fun b cs fr hb=>hB b cs _ fr hb way_ne_int,h.2.2.2.keep fun b cs fr hb=>hB b cs _ fr hb way_ne_int⟩
theorem WayT.keepA {w w':World} {x:WL} (h:WayT w x) (hB:OffT 116 w w'):WayT w' x :=
 ⟨h.1.keep fun b cs fr hb=>hB b cs _ fr hb ax_ne_nd,h.2.1.keep fun b cs fr hb=>hB b cs _ fr hb ax_ne_str,h.2.2.1.keep fun b cs fr hb=>hB b cs _ fr hb ax_ne_int,h.2.2.2.keep fun b cs fr hb=>hB b cs _ fr hb ax_ne_int⟩
theorem WayT.later {w w':World} {x:WL} (h:WayT w x) (hB:Below w.heap.size w w'):WayT w' x:=⟨h.1.later hB,h.2.1.later hB,h.2.2.1.later hB,h.2.2.2.later hB⟩
theorem offT_set {w:World} {g k T:Nat} {cs:Array Value} {fr:Nat×Nat} {v:Value} (h:w.heap[g]?=some (.cells cs T fr)):OffT T w (w.setCell ⟨g,k,none⟩ v):=fun b cs' t fr' hb ht=>by
 refine setCell_off _ _ _ _ _ fun e=>?_
 rw [e,h] at hb
 simp only [Option.some.injEq,Obj.cells.injEq] at hb
 exact ht hb.2.1.symm
theorem offT_trans {T:Nat} {w w1 w2:World} (h:OffT T w w1) (k:OffT T w1 w2):OffT T w w2:=fun b cs t fr hb ht=>by
 have e:=h b cs t fr hb ht
 exact (k b cs t fr (e.trans hb) ht).trans e
theorem set_ty {w:World} {g k T:Nat} {cs:Array Value} {fr:Nat×Nat} {v:Value} (h:w.heap[g]?=some (.cells cs T fr)):(w.setCell ⟨g,k,none⟩ v).heap[g]?=some (.cells (cs.setIfInBounds k v) T fr):=by
 rw [Sort.setCell_eq]
 unfold Sort.mapBlock
 simp only [Array.getElem?_modify,if_true,h,Option.map_some]
 rfl
theorem offT_set5 {w:World} {g T:Nat} {cs:Array Value} {fr:Nat×Nat} {a b c d e:Value} (h:w.heap[g]?=some (.cells cs T fr)):OffT T w (((((w.setCell ⟨g,0,none⟩ a).setCell ⟨g,1,none⟩ b).setCell ⟨g,2,none⟩ c).setCell ⟨g,3,none⟩ d).setCell ⟨g,4,none⟩ e) :=
 offT_trans (offT_trans (offT_trans (offT_trans (offT_set h) (offT_set (set_ty h))) (offT_set (set_ty (set_ty h)))) (offT_set (set_ty (set_ty (set_ty h))))) (offT_set (set_ty (set_ty (set_ty (set_ty h)))))
def sgnI (d:Dm) (k:Int):Int:=(d.mem k.toNat).sign
def WayOf (d:Dm) (i:Nat) (x:WL):Prop:=((d.mem i).formula.size=0→x.lf=leafB d.mem d.n i∧x.nd=[]∧x.nm=[]∧x.ne=mNd d i∧x.sg=(mNd d i).map (sgnI d))∧((d.mem i).formula.size≠0→x.lf=false∧x.nd=prsL (d.mem i).formula∧x.nm=refsP (prsL (d.mem i).formula)∧x.ne=(refsP (prsL (d.mem i).formula)).map (whL d)∧x.sg=[])
def ownWay (w:World) (d:Dm) (A:Option Addr) (cap:Nat):World:=(ownDim w d A cap 30).alloc (.cells #[.bool false,.slice none 0 0,.slice none 0 0,.slice none 0 0,.slice none 0 0] 130)
theorem ownWay_below (w:World) (d:Dm) (A:Option Addr) (cap:Nat):Below w.heap.size w (ownWay w d A cap):=by unfold ownWay ownDim;go_grown
theorem ownWay_size (w:World) (d:Dm) (A:Option Addr) (cap:Nat):(ownWay w d A cap).heap.size=w.heap.size+2:=by unfold ownWay ownDim;simp
theorem way_cells {w w1:World} {d:Dm} {A:Option Addr} {cap:Nat} (hB:Below (ownWay w d A cap).heap.size (ownWay w d A cap) w1):(w1.cell? ⟨w.heap.size,0,none⟩=some (.string d.name)∧w1.cell? ⟨w.heap.size,1,none⟩=some (.int .i64 d.solve)∧w1.cell? ⟨w.heap.size,2,none⟩=some (.slice A d.n cap)∧w.heap.size<w1.heap.size)∧w1.heap[w.heap.size+1]?=some (.cells #[.bool false,.slice none 0 0,.slice none 0 0,.slice none 0 0,.slice none 0 0] 130 (0,0)):=by
 have hb:Below (ownDim w d A cap 30).heap.size (ownDim w d A cap 30) (ownWay w d A cap):=by unfold ownWay;go_grown
 refine ⟨dim_cells (onB hb hB),?_⟩
 rw [hB.block _ (by rw [ownWay_size];omega)]
 unfold ownWay
 have h:=heap_alloc_new (ownDim w d A cap 30) (.cells #[.bool false,.slice none 0 0,.slice none 0 0,.slice none 0 0,.slice none 0 0] 130)
 rw [ownDim_size] at h
 exact h
theorem way_block {w:World} {g:Nat} (h:w.heap[g]?=some (.cells #[.bool false,.slice none 0 0,.slice none 0 0,.slice none 0 0,.slice none 0 0] 130 (0,0))):g<w.heap.size∧(w.cell? ⟨g,0,none⟩=some (.bool false)∧w.cell? ⟨g,1,none⟩=some (.slice none 0 0)∧w.cell? ⟨g,2,none⟩=some (.slice none 0 0)∧w.cell? ⟨g,3,none⟩=some (.slice none 0 0)∧w.cell? ⟨g,4,none⟩=some (.slice none 0 0))∧∀ k,w.frozen? ⟨g,k,none⟩=false :=
 ⟨(Array.getElem?_eq_some_iff.1 h).1,⟨by simp [World.cell?,h],by simp [World.cell?,h],by simp [World.cell?,h],by simp [World.cell?,h],by simp [World.cell?,h]⟩,fun k=>by simp [World.frozen?,h]⟩
theorem sgn_snoc (d:Dm) (P:List Int) {k:Nat} (h:k<P.length):(P.take (k+1)).map (sgnI d)=(P.take k).map (sgnI d) ++ [sgnI d (P.getD k 0)]:=by
 rw [List.take_succ_eq_append_getElem h,List.map_append,List.getD_eq_getElem?_getD,List.getElem?_eq_getElem h]
 rfl
set_option maxHeartbeats 4000000 in
theorem byparts_any (d:Dm) (A:Option Addr) (cap i:Nat) (w:World) (hR:(rErr d).2=0) (hi:i<d.n) (hf:(d.mem i).formula.size=0) (hM:MemsV w A cap d.n d.mem) :
  Calls Tryz.prog 116 #[dimV d A cap,.int .i64 i] w fun e w'=>(∃ x,e=.returned (.tuple #[wayV x,.nilIface])∧WayT w' x∧WayOf d i x)∧Below w.heap.size w w':=by
 obtain ⟨hd,-,-,-⟩:=rErr_right hR
 obtain ⟨-,-,hd2,-⟩:=dimErr_right hd
 obtain ⟨i0,hi0,hz0,hz1,hz2⟩:=info_parts Tryz.infoInt
 obtain ⟨hcap,h0 | ⟨b,o,rfl,hMs⟩⟩:=id hM
 ·omega
 have hB0:=ownWay_below w d (some ⟨b,o,none⟩) cap
 have hS:=ownWay_size w d (some ⟨b,o,none⟩) cap
 obtain ⟨⟨o0,o1,o2,hq⟩,hwy⟩:=way_cells (w:=w) (d:=d) (A:=(some ⟨b,o,none⟩)) (cap:=cap) (Below.refl _ _)
 have hte:treeErr d [(i:Int)]=0:=by rw [treeErr_one hd,if_neg (by omega)]
 have hlf:lfOf d i=leafB d.mem d.n i:=by unfold lfOf;rw [hte];simp
 have hle:=tleaf_any d (some ⟨b,o,none⟩) cap i (ownWay w d (some ⟨b,o,none⟩) cap) (hM.later hB0)
 rw [hte,hlf,errV_zero] at hle
 have HNd:Hid (∀ w',Below w.heap.size w w'→Calls Tryz.prog 150 #[dimV d (some ⟨b,o,none⟩) cap,.int .i64 i] w' fun e w''=>(∃ A' c',e=.returned (.tuple #[.slice A' (mNd d i).length c',.nilIface])∧IntT w'' A' c' (mNd d i))∧Below w'.heap.size w' w''):=fun w' hb=>by
  have h:=rneed_any d (some ⟨b,o,none⟩) cap i w' (hM.later hb)
  rw [(ne2 hR hi).1,(ne2 hR hi).2,errV_zero] at h
  exact h
 have HWc:Hid (∀ w1,Below (ownWay w d (some ⟨b,o,none⟩) cap).heap.size (ownWay w d (some ⟨b,o,none⟩) cap) w1→(w1.cell? ⟨w.heap.size,0,none⟩=some (.string d.name)∧w1.cell? ⟨w.heap.size,1,none⟩=some (.int .i64 d.solve)∧w1.cell? ⟨w.heap.size,2,none⟩=some (.slice (some ⟨b,o,none⟩) d.n cap)∧w.heap.size<w1.heap.size)∧w1.heap[w.heap.size+1]?=some (.cells #[.bool false,.slice none 0 0,.slice none 0 0,.slice none 0 0,.slice none 0 0] 130 (0,0))):=fun w1 h=>way_cells h
 have HM:Hid (MemsAt w b o d.n d.mem):=hMs
 have HIn:Hid (∀ z∈mNd d i,0≤z∧z<(d.n:Int)):=fun z hz=>mNd_in hz
 have hl12:(mNd d i).length≤12:=Nat.le_trans (selTo_len _ _) hd2
 unfold dimV at hle HNd ⊢
 obtain ⟨W,hW⟩:∃ W,ownWay w d (some ⟨b,o,none⟩) cap=W:=⟨_,rfl⟩
 rw [hW] at hB0 hS o0 o1 o2 hq hwy hle HWc
 unfold ownWay ownDim at hW
 have HB0:Hid (Below w.heap.size w W):=hB0
 have HWo:Hid (∀ A' c' A2 c2,WayOf d i ⟨leafB d.mem d.n i,[],none,0,[],none,0,mNd d i,A',c',(mNd d i).map (sgnI d),A2,c2⟩):=fun A' c' _ _=>⟨fun _=>⟨rfl,rfl,rfl,rfl,rfl⟩,fun h=>absurd hf h⟩
 generalize leafB d.mem d.n i=lf at hle HWo
 obtain ⟨P,hP⟩:∃ P,mNd d i=P:=⟨_,rfl⟩
 rw [hP] at HNd HIn hl12 HWo
 obtain ⟨n,hn⟩:∃ n,P.length=n:=⟨_,rfl⟩
 have HN:Hid (P.length=n):=hn
 rw [hn] at HNd hl12
 have hnI:(n:Int)≤12:=by omega
 have hdI:(d.n:Int)≤12:=by omega
 have hcI:(d.n:Int)≤(cap:Int):=by omega
 clear hd hte hlf hR hf hM hMs hB0 hwy hP hn
 go_enter Tryz.func116,Tryz.ntmps116
 go_wp2_with fail
 refine hle.mono ?_
 rintro e w1 ⟨rfl,hb1⟩
 have HB1:Hid (Below W.heap.size W w1):=hb1
 obtain ⟨⟨p0,p1,p2,hq1⟩,-⟩:=HWc.out w1 hb1
 clear hb1 hle o0 o1 o2 hW
 go_wp2_with fail
 refine (HNd.out w1 (onB HB0.out HB1.out)).mono ?_
 rintro e w2 ⟨⟨A2,c2,rfl,hI2⟩,hb2⟩
 have HB2:Hid (Below W.heap.size W w2):=onB HB1.out hb2
 have HI2:Hid (IntT w2 A2 c2 P):=hI2
 clear hb2 p0 p1 p2 hI2
 go_wp2_with fail
 go_loopg [9,34] n (fun g s9 s34 wr => ∃ (k:Nat) (v:Value),k≤n∧g=n-k∧s34=.int .i64 k∧v=s9∧wr.ownsRow w2.heap.size 3 1 v k (mapI ((P.take k).map (sgnI d)))∧Below w2.heap.size w2 wr)
 case atStart=>exact ⟨0,_,Nat.zero_le _,rfl,rfl,rfl,World.ownsRow_nil _ _ _ _,Below.refl _ _⟩
 case round =>
  obtain ⟨k,v,hk,rfl,rfl,rfl,hO,hBw⟩:=hrel
  have HO:Hid (wr.ownsRow w2.heap.size 3 1 v k (mapI ((P.take k).map (sgnI d)))):=hO
  have HBw:Hid (Below w2.heap.size w2 wr):=hBw
  by_cases hlt:k<n
  ·have hki:(k:Int)<(n:Int):=by omega
   have hkP:k<P.length:=by rw [HN.out];exact hlt
   obtain ⟨hcS,-,hS0 | ⟨bs,cs,fr,rfl,hbS,hcl⟩⟩:=HI2.out.later hBw
   ·have:=HN.out;rw [hS0] at this;simp at this;omega
   have cx:=hcl k hkP
   have hbs:bs<wr.heap.size:=(Array.getElem?_eq_some_iff.1 hbS).1
   rw [HN.out] at hcS
   have hmem:P.getD k 0∈P:=by rw [List.getD_eq_getElem?_getD,List.getElem?_eq_getElem hkP];exact List.getElem_mem hkP
   have hz:=HIn.out _ hmem
   have HNx:Hid ((P.take (k+1)).map (sgnI d)=(P.take k).map (sgnI d) ++ [sgnI d (P.getD k 0)]):=sgn_snoc d P hkP
   have hWr:=onB HB2.out hBw
   obtain ⟨⟨-,-,q2,hq2⟩,-⟩:=HWc.out wr hWr
   have hMr:=HM.out.later (onB HB0.out hWr)
   obtain ⟨j,hj⟩:∃ j:Nat,P.getD k 0=(j:Int):=⟨(P.getD k 0).toNat,by omega⟩
   have hjn:j<d.n:=by omega
   have hjI:(j:Int)<(d.n:Int):=by omega
   rw [hj] at cx HNx
   obtain ⟨-,-,m2,-⟩:=hMr.2 j hjn
   have hbl:b<wr.heap.size:=hMr.1
   have hsg:sgnI d (j:Int)=(d.mem j).sign:=by unfold sgnI;rw [Int.toNat_natCast]
   rw [hsg] at HNx
   have hBs:=HBw.out.size
   generalize (d.mem j).sign=r at m2 HNx
   clear hcl hO hBw hWr hMr hj hz hmem hsg hbS
   go_wp2_with (at_builtin;refine wpList_append_own _ rfl _ _ 38 rfl w2.heap.size 3 i0 (.int .i64 0) 1 8 Tryz.underlying38 hi0 hz0 hz1 hz2 rfl (by decide) _ _ _ rfl (HO.out.alloc _) ⟨wr.heap.size,0,none⟩ 1 1 [.int .i64 r] rfl rfl one_cell one_one (by unfold maxLen;omega) (by omega) (by simp;omega) ?_)
   intro v' w5 hown' hgrow _
   have HB5:Hid (Below w2.heap.size w2 w5):=grown_own HBw.out HO.out hgrow
   have HO5:Hid (w5.ownsRow w2.heap.size 3 1 v' (k+1) (mapI ((P.take (k+1)).map (sgnI d)))):=by
    show World.ownsRow ..
    rw [HNx.out,mapI_snoc,List.map_take];exact hown'
   clear hown' hgrow
   go_wp2_with fail
   go_roundg (n-(k+1))
   case measure=>omega
   case rel=>exact ⟨k+1,_,by omega,rfl,by go_num,rfl,HO5.out,HB5.out⟩
  ·have hke:k=n:=by omega
   subst hke
   have hL0:P.take k=P:=List.take_of_length_le (by rw [HN.out];exact Nat.le_refl _)
   have HF:Hid (∃ A' c',v=.slice A' k c'∧IntT wr A' c' (P.map (sgnI d))):=by
    have h:=hO
    rw [hL0] at h
    have hlen:(P.map (sgnI d)).length=k:=by rw [List.length_map];exact HN.out
    rw [←hlen] at h
    obtain ⟨A',c',e,hv⟩:=intT_own h
    rw [hlen] at e
    exact ⟨A',c',e,hv⟩
   obtain ⟨A3,c3,rfl,hI3⟩:=HF.out
   have HI3:Hid (IntT wr A3 c3 (P.map (sgnI d))):=hI3
   obtain ⟨-,hr⟩:=HWc.out wr (onB HB2.out HBw.out)
   obtain ⟨hg,⟨r0,r1,r2,r3,r4⟩,hfr⟩:=way_block hr
   have f0:=hfr 0
   have f1:=hfr 1
   have f2:=hfr 2
   have f3:=hfr 3
   have f4:=hfr 4
   have HRr:Hid (wr.heap[w.heap.size+1]?=some (.cells #[.bool false,.slice none 0 0,.slice none 0 0,.slice none 0 0,.slice none 0 0] 130 (0,0))):=hr
   clear hO hBw hr hfr hI3 hL0 HO HF
   go_wp2_with fail
   refine bodyPost_ret (v:=.tuple #[wayV ⟨lf,[],none,0,[],none,0,P,A2,c2,P.map (sgnI d),A3,c3⟩,.nilIface]) (by simp [results,Tryz.results116,go_sem,r0,r1,r2,r3,r4,wayV,HN.out]) rfl ⟨⟨_,rfl,?_,HWo.out _ _ _ _⟩,?_⟩
   ·exact WayT.keepW (⟨NdsT.nil _ _ _ (Nat.zero_le _),StrT.nil _ _ _ (Nat.zero_le _),HI2.out.later HBw.out,HI3.out⟩:WayT wr _) (offT_set5 HRr.out)
   ·exact (((((onB HB0.out (onB HB2.out HBw.out)).setCell (by simp) _).setCell (by simp) _).setCell (by simp) _).setCell (by simp) _).setCell (by simp) _
theorem bf1_in:EntersO 149:=fun args w=>by simp [callFunc,Tryz.func149];rfl
theorem bf1_any (m:Mem) (s:ByteArray) (q:Nat) (w:World) (hq:q<w.heap.size) (h:w.cell? ⟨q,0,none⟩=some (.string s)):Calls Tryz.prog 149 #[memV m,.pointer (some ⟨q,0,none⟩)] w fun e w'=>e=.returned (.bool (same m.name s))∧Below w.heap.size w w':=by
 unfold memV
 go_enter Tryz.func149,Tryz.ntmps149
 go_wp2_with fail
 go_ret
 exact ⟨by simp [same],by go_grown⟩
set_option maxHeartbeats 4000000 in
theorem byformula_any (d:Dm) (A:Option Addr) (cap i:Nat) (w:World) (hR:(rErr d).2=0) (hi:i<d.n) (hf:(d.mem i).formula.size≠0) (hM:MemsV w A cap d.n d.mem) :
  Calls Tryz.prog 115 #[dimV d A cap,.string (d.mem i).formula] w fun e w'=>(∃ x,e=.returned (.tuple #[wayV x,.nilIface])∧WayT w' x∧WayOf d i x)∧Below w.heap.size w w':=by
 obtain ⟨hd,hme,-,-⟩:=rErr_right hR
 obtain ⟨-,-,hd2,hall⟩:=dimErr_right hd
 obtain ⟨i0,hi0,hz0,hz1,hz2⟩:=info_parts Tryz.infoInt
 have hmf:∀ (fn:Fn) (first cap:Array Value) (w:World),(Instr.makeFunc fn first cap).run Tryz.prog w=.ok (.func fn first cap) w:=fun _ _ _ _=>rfl
 obtain ⟨hcap,h0 | ⟨b,o,rfl,hMs⟩⟩:=hM
 ·omega
 have hpe:=mErr_prsE hf (hme i hi)
 have hfe:=form_read hpe
 have hrl:=refs_len hfe
 have hB0:=ownWay_below w d (some ⟨b,o,none⟩) cap
 have hS:=ownWay_size w d (some ⟨b,o,none⟩) cap
 obtain ⟨⟨o0,o1,o2,hq⟩,-⟩:=way_cells (w:=w) (d:=d) (A:=(some ⟨b,o,none⟩)) (cap:=cap) (Below.refl _ _)
 have HWc:Hid (∀ w1,Below (ownWay w d (some ⟨b,o,none⟩) cap).heap.size (ownWay w d (some ⟨b,o,none⟩) cap) w1→(w1.cell? ⟨w.heap.size,0,none⟩=some (.string d.name)∧w1.cell? ⟨w.heap.size,1,none⟩=some (.int .i64 d.solve)∧w1.cell? ⟨w.heap.size,2,none⟩=some (.slice (some ⟨b,o,none⟩) d.n cap)∧w.heap.size<w1.heap.size)∧w1.heap[w.heap.size+1]?=some (.cells #[.bool false,.slice none 0 0,.slice none 0 0,.slice none 0 0,.slice none 0 0] 130 (0,0))):=fun w1 h=>way_cells h
 have HM:Hid (MemsAt w b o d.n d.mem):=hMs
 unfold dimV
 obtain ⟨W,hW⟩:∃ W,ownWay w d (some ⟨b,o,none⟩) cap=W:=⟨_,rfl⟩
 rw [hW] at hB0 hS o0 o1 o2 hq HWc
 unfold ownWay ownDim at hW
 have HB0:Hid (Below w.heap.size w W):=hB0
 have HWo:Hid (∀ An cn As cs Ai ci,WayOf d i ⟨false,prsL (d.mem i).formula,An,cn,refsP (prsL (d.mem i).formula),As,cs,(refsP (prsL (d.mem i).formula)).map (whL d),Ai,ci,[],none,0⟩):=fun _ _ _ _ _ _=>⟨fun h=>absurd h hf,fun _=>⟨rfl,rfl,rfl,rfl,rfl⟩⟩
 have hfs:=memErr_form (hall i hi)
 generalize (d.mem i).formula=s at *
 have hpr:=fparse_typ s W hfs
 have hrf:=fun A c w' hN=>frefs_typ A c (prsL s) w' hN
 rw [hfe,errV_zero] at hrf
 rw [hpe,errV_zero] at hpr
 obtain ⟨L,hL⟩:∃ L,refsP (prsL s)=L:=⟨_,rfl⟩
 rw [hL] at hrl hrf HWo
 obtain ⟨l,hl⟩:∃ l,prsL s=l:=⟨_,rfl⟩
 rw [hl] at hpr hrf HWo
 generalize (prsA s:Int)=at' at hpr
 obtain ⟨n,hn⟩:∃ n,L.length=n:=⟨_,rfl⟩
 have HN:Hid (L.length=n):=hn
 obtain ⟨m,hm⟩:∃ m,l.length=m:=⟨_,rfl⟩
 have HMm:Hid (l.length=m):=hm
 have HRfs:Hid (∀ A c w',NdsT w' A c l→Calls Tryz.prog 147 #[.slice A m c] w' fun e w''=>(∃ A' c',e=.returned (.tuple #[.slice A' n c',.nilIface])∧StrT w'' A' c' L)∧Below w'.heap.size w' w''):=fun A c w' h=>by rw [←hn,←hm];exact hrf A c w' h.1
 rw [hm] at hpr
 rw [hn] at hrl
 have hnI:(n:Int)≤30:=by omega
 have hdI:(d.n:Int)≤12:=by omega
 clear hpe hfe hL hl hn hm hrf hd hme hall hR hf hMs hB0 hfs
 go_enter Tryz.func115,Tryz.ntmps115
 go_wp2_with fail
 refine hpr.mono ?_
 rintro e w1 ⟨⟨A1,c1,rfl,hN1⟩,hb1⟩
 have hrf:=HRfs.out A1 c1 w1 hN1
 have HN1:Hid (NdsT w1 A1 c1 l):=hN1
 have HB1:Hid (Below W.heap.size W w1):=hb1
 clear hpr hN1 hb1 o0 o1 o2 hW
 go_wp2_with fail
 refine hrf.mono ?_
 rintro e w2 ⟨⟨A2,c2,rfl,hS2⟩,hb2⟩
 have HB2:Hid (Below W.heap.size W w2):=onB HB1.out hb2
 have HS2:Hid (StrT w2 A2 c2 L):=hS2
 have HN2:Hid (NdsT w2 A1 c1 l):=HN1.out.later hb2
 clear hrf hb2 hS2
 go_wp2_with fail
 go_loopg [10,34] n (fun g s10 s34 wr => ∃ (k:Nat) (v:Value),k≤n∧g=n-k∧s34=.int .i64 k∧v=s10∧wr.ownsRow w2.heap.size 3 1 v k (mapI ((L.take k).map (whL d)))∧Below w2.heap.size w2 wr)
 case atStart=>exact ⟨0,_,Nat.zero_le _,rfl,rfl,rfl,World.ownsRow_nil _ _ _ _,Below.refl _ _⟩
 case round =>
  obtain ⟨k,v,hk,rfl,rfl,rfl,hO,hBw⟩:=hrel
  have HO:Hid (wr.ownsRow w2.heap.size 3 1 v k (mapI ((L.take k).map (whL d)))):=hO
  have HBw:Hid (Below w2.heap.size w2 wr):=hBw
  by_cases hlt:k<n
  ·have hki:(k:Int)<(n:Int):=by omega
   obtain ⟨hcS,-,hS0 | ⟨bs,os,rfl,hbS,hcl⟩⟩:=(HS2.out.later hBw).1
   ·have:=HN.out;rw [hS0] at this;simp at this;omega
   have cx:=hcl k (by rw [HN.out];exact hlt)
   rw [HN.out] at hcS
   have HNx:Hid ((L.take (k+1)).map (whL d)=(L.take k).map (whL d) ++ [whL d (L.getD k [])]):=map_one d L (by rw [HN.out];exact hlt)
   have hWr:=onB HB2.out hBw
   obtain ⟨⟨-,-,p2,hq2⟩,-⟩:=HWc.out wr hWr
   have hMr:=HM.out.later (onB HB0.out hWr)
   obtain ⟨x,hx⟩:∃ x,(⟨(L.getD k []).toArray⟩:ByteArray)=x:=⟨_,rfl⟩
   have HX:Hid (x.data.toList=L.getD k []):=by show _=_;rw [←hx]
   rw [hx] at cx
   obtain ⟨y,hy⟩:∃ y,wr.alloc (.cells #[.string x] 9)=y:=⟨_,rfl⟩
   have hBy:Below wr.heap.size wr y:=by rw [←hy];exact (Below.refl _ _).alloc (Nat.le_refl _) _
   have hsy:y.heap.size=wr.heap.size+1:=by rw [←hy];simp
   have hcy:y.cell? ⟨wr.heap.size,0,none⟩=some (.string x):=by
    have h:y.heap[wr.heap.size]?=some (.cells #[.string x] 9 (0,0)):=by rw [←hy];exact heap_alloc_new _ _
    rw [Lib.cell_of_heap h]
    rfl
   have py:=(hBy.cell (p:=⟨w.heap.size,2,none⟩) hq2).trans p2
   have hix:=index_mems 149 wr.heap.size bf1_in b o d.n cap d.mem (fun j=>same (d.mem j).name x) y hd2 (hMr.later hBy) (fun j w' _ hw'=>bf1_any (d.mem j) x wr.heap.size w' (by have:=hw'.size;omega) ((hw'.cell (p:=⟨wr.heap.size,0,none⟩) (by show wr.heap.size<_;omega)).trans hcy))
   rw [whL_same,HX.out] at hix
   generalize whL d (L.getD k [])=r at hix HNx
   have HBy:Hid (Below wr.heap.size wr y):=hBy
   generalize d.n=dn at *
   clear hcl hO hBw hWr hMr hBy hcy hx hsy
   go_wp2_with fail
   refine hix.mono ?_
   rintro e w4 ⟨rfl,hb4⟩
   have hB4:Below w2.heap.size w2 w4:=onB HBw.out (onB HBy.out hb4)
   have HB4:Hid (Below w2.heap.size w2 w4):=hB4
   have HO4:Hid (w4.ownsRow w2.heap.size 3 1 v k (mapI ((L.take k).map (whL d)))):=own_later (own_later HO.out HBy.out) hb4
   have hsz:=hB4.size
   clear hb4 hix hB4 hy
   go_wp2_with (at_builtin;refine wpList_append_own _ rfl _ _ 38 rfl w2.heap.size 3 i0 (.int .i64 0) 1 8 Tryz.underlying38 hi0 hz0 hz1 hz2 rfl (by decide) _ _ _ rfl (HO4.out.alloc _) ⟨w4.heap.size,0,none⟩ 1 1 [.int .i64 r] rfl rfl one_cell one_one (by unfold maxLen;omega) (by omega) (by simp;omega) ?_)
   intro v' w5 hown' hgrow _
   have HB5:Hid (Below w2.heap.size w2 w5):=grown_own HB4.out HO4.out hgrow
   have HO5:Hid (w5.ownsRow w2.heap.size 3 1 v' (k+1) (mapI ((L.take (k+1)).map (whL d)))):=by
    show World.ownsRow ..
    rw [HNx.out,mapI_snoc,List.map_take];exact hown'
   clear hown' hgrow
   go_wp2_with fail
   go_roundg (n-(k+1))
   case measure=>omega
   case rel=>exact ⟨k+1,_,by omega,rfl,by go_num,rfl,HO5.out,HB5.out⟩
  ·have hke:k=n:=by omega
   subst hke
   have hL0:L.take k=L:=List.take_of_length_le (by rw [HN.out];exact Nat.le_refl _)
   have HF:Hid (∃ A' c',v=.slice A' k c'∧IntT wr A' c' (L.map (whL d))):=by
    have h:=hO
    rw [hL0] at h
    have hlen:(L.map (whL d)).length=k:=by rw [List.length_map];exact HN.out
    rw [←hlen] at h
    obtain ⟨A',c',e,hv⟩:=intT_own h
    rw [hlen] at e
    exact ⟨A',c',e,hv⟩
   obtain ⟨A3,c3,rfl,hI3⟩:=HF.out
   have HI3:Hid (IntT wr A3 c3 (L.map (whL d))):=hI3
   obtain ⟨-,hr⟩:=HWc.out wr (onB HB2.out HBw.out)
   obtain ⟨hg,⟨r0,r1,r2,r3,r4⟩,hfr⟩:=way_block hr
   have f0:=hfr 0
   have f1:=hfr 1
   have f2:=hfr 2
   have f3:=hfr 3
   have f4:=hfr 4
   have HRr:Hid (wr.heap[w.heap.size+1]?=some (.cells #[.bool false,.slice none 0 0,.slice none 0 0,.slice none 0 0,.slice none 0 0] 130 (0,0))):=hr
   clear hO hBw hr hfr hI3 hL0 HO HF
   go_wp2_with fail
   refine bodyPost_ret (v:=.tuple #[wayV ⟨false,l,A1,c1,L,A2,c2,L.map (whL d),A3,c3,[],none,0⟩,.nilIface]) (by simp [results,Tryz.results115,go_sem,r0,r1,r2,r3,r4,wayV,HN.out,HMm.out]) rfl ⟨⟨_,rfl,?_,HWo.out _ _ _ _ _ _⟩,?_⟩
   ·exact WayT.keepW (⟨HN2.out.later HBw.out,HS2.out.later HBw.out,HI3.out,IntT.nil _ _ _ (Nat.zero_le _)⟩:WayT wr _) (offT_set5 HRr.out)
   ·exact (((((onB HB0.out (onB HB2.out HBw.out)).setCell (by simp) _).setCell (by simp) _).setCell (by simp) _).setCell (by simp) _).setCell (by simp) _
set_option maxHeartbeats 4000000 in
theorem wayof_any (d:Dm) (A:Option Addr) (cap i:Nat) (w:World) (hR:(rErr d).2=0) (hi:i<d.n) (hM:MemsV w A cap d.n d.mem) :
  Calls Tryz.prog 86 #[dimV d A cap,.int .i64 i] w fun e w'=>(∃ x,e=.returned (.tuple #[wayV x,.nilIface])∧WayT w' x∧WayOf d i x)∧Below w.heap.size w w':=by
 obtain ⟨hd,-,-,-⟩:=rErr_right hR
 obtain ⟨-,-,hd2,-⟩:=dimErr_right hd
 have hB0:=ownWay_below w d A cap
 have hS:=ownWay_size w d A cap
 obtain ⟨⟨o0,o1,o2,hq⟩,-⟩:=way_cells (w:=w) (d:=d) (A:=A) (cap:=cap) (Below.refl _ _)
 have HWc:Hid (∀ w1,Below (ownWay w d A cap).heap.size (ownWay w d A cap) w1→w1.heap[w.heap.size+1]?=some (.cells #[.bool false,.slice none 0 0,.slice none 0 0,.slice none 0 0,.slice none 0 0] 130 (0,0))):=fun w1 h=>(way_cells h).2
 have hMW:=hM.later hB0
 obtain ⟨hcap,h0 | ⟨b,o,rfl,hMs⟩⟩:=hM
 ·omega
 obtain ⟨-,-,-,c3⟩:=(hMs.later hB0).2 i hi
 have hbl:b<(ownWay w d (some ⟨b,o,none⟩) cap).heap.size:=(hMs.later hB0).1
 have hp:=fun h=>byparts_any d (some ⟨b,o,none⟩) cap i (ownWay w d (some ⟨b,o,none⟩) cap) hR hi h hMW
 have hfo:=fun h=>byformula_any d (some ⟨b,o,none⟩) cap i (ownWay w d (some ⟨b,o,none⟩) cap) hR hi h hMW
 unfold dimV at hp hfo ⊢
 obtain ⟨W,hW⟩:∃ W,ownWay w d (some ⟨b,o,none⟩) cap=W:=⟨_,rfl⟩
 rw [hW] at hB0 hS o0 o1 o2 hq HWc c3 hbl hp hfo
 unfold ownWay ownDim at hW
 have HB0:Hid (Below w.heap.size w W):=hB0
 have hii:(i:Int)<(d.n:Int):=by omega
 have hdI:(d.n:Int)≤12:=by omega
 by_cases hf:(d.mem i).formula.size=0
 ·have hf':(d.mem i).formula.toList.isEmpty=true:=by rw [empty_same];simpa using hf
  have hpp:=hp hf
  have HFo:Hid (∀ x,WayOf d i x→WayOf d i x):=fun _ h=>h
  generalize (d.mem i).formula=fm at c3 hf'
  clear hp hfo hf hMs hMW hB0 hR hd
  go_enter Tryz.func86,Tryz.ntmps86
  go_wp2_with fail
  refine hpp.mono ?_
  rintro e w1 ⟨⟨x,rfl,hT,hO⟩,hb1⟩
  have HT:Hid (WayT w1 x):=hT
  have HO:Hid (WayOf d i x):=hO
  have HB1:Hid (Below W.heap.size W w1):=hb1
  have hr:=HWc.out w1 hb1
  obtain ⟨hg,⟨r0,r1,r2,r3,r4⟩,hfr⟩:=way_block hr
  have f0:=hfr 0
  have f1:=hfr 1
  have f2:=hfr 2
  have f3:=hfr 3
  have f4:=hfr 4
  have HRr:Hid (w1.heap[w.heap.size+1]?=some (.cells #[.bool false,.slice none 0 0,.slice none 0 0,.slice none 0 0,.slice none 0 0] 130 (0,0))):=hr
  unfold wayV
  clear hT hO hb1 hpp hr hfr
  go_wp2_with fail
  refine bodyPost_ret (v:=.tuple #[wayV x,.nilIface]) (by simp [results,Tryz.results86,go_sem,r0,r1,r2,r3,r4,wayV]) rfl ⟨⟨_,rfl,?_,HO.out⟩,?_⟩
  ·exact HT.out.keepW (offT_set5 HRr.out)
  ·exact (((((onB HB0.out HB1.out).setCell (by simp) _).setCell (by simp) _).setCell (by simp) _).setCell (by simp) _).setCell (by simp) _
 ·have hf':(d.mem i).formula.toList.isEmpty=false:=by rw [empty_same];simpa using hf
  have hpp:=hfo hf
  generalize (d.mem i).formula=fm at c3 hf' hpp
  clear hp hfo hf hMs hMW hB0 hR hd
  go_enter Tryz.func86,Tryz.ntmps86
  go_wp2_with fail
  refine hpp.mono ?_
  rintro e w1 ⟨⟨x,rfl,hT,hO⟩,hb1⟩
  have HT:Hid (WayT w1 x):=hT
  have HO:Hid (WayOf d i x):=hO
  have HB1:Hid (Below W.heap.size W w1):=hb1
  have hr:=HWc.out w1 hb1
  obtain ⟨hg,⟨r0,r1,r2,r3,r4⟩,hfr⟩:=way_block hr
  have f0:=hfr 0
  have f1:=hfr 1
  have f2:=hfr 2
  have f3:=hfr 3
  have f4:=hfr 4
  have HRr:Hid (w1.heap[w.heap.size+1]?=some (.cells #[.bool false,.slice none 0 0,.slice none 0 0,.slice none 0 0,.slice none 0 0] 130 (0,0))):=hr
  unfold wayV
  clear hT hO hb1 hpp hr hfr
  go_wp2_with fail
  refine bodyPost_ret (v:=.tuple #[wayV x,.nilIface]) (by simp [results,Tryz.results86,go_sem,r0,r1,r2,r3,r4,wayV]) rfl ⟨⟨_,rfl,?_,HO.out⟩,?_⟩
  ·exact HT.out.keepW (offT_set5 HRr.out)
  ·exact (((((onB HB0.out HB1.out).setCell (by simp) _).setCell (by simp) _).setCell (by simp) _).setCell (by simp) _).setCell (by simp) _
end Go.Proofs.YtfgegmpoejilnaaGreatDoor
