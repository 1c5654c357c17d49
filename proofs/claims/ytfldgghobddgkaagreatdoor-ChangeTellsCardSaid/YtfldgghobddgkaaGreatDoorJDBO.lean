/-
  tallyref2.Change: Remove's members.
-/
import Derived.Test.YtfldgghobddgkaaGreatDoorJDBM
import Derived.Test.YtfldgghobddgkaaGreatDoorJDBN
namespace Go.Proofs.YtfldgghobddgkaaGreatDoor
open Go Go.ChangeShapes Go.WideShapes Go.ChangeAt Go.RowKit
set_option maxRecDepth 1000000
set_option maxHeartbeats 64000000
def lft (i k:Nat):Nat:=if k≤i then k else k-1
theorem lft_in {i k:Nat} (h:k≠i):lft i (k+1)=lft i k+1:=by unfold lft;split <;> split <;> omega
theorem lft_at {i:Nat}:lft i (i+1)=lft i i:=by unfold lft;split <;> split <;> omega
theorem cut_lft {M:Nat→Mem} {i k:Nat} (h:k≠i):cutM M i (lft i k)=M k:=by
 unfold cutM lft
 by_cases e:k≤i
 ·rw [if_pos e,if_pos (by omega)]
 ·rw [if_neg e,if_neg (by omega),show k-1+1=k by omega]
theorem ctMs (T:Array Value) (s:Nat→Value) (w:World) (q B g C i:Nat) (d:Dm) (hF:ctF T s) (h10:s 10=.pointer (some ⟨q,0,none⟩)) (h12:s 12=.int .i64 (i:Nat)) (h13:s 13=.slice none 0 0)
  (h:CtD w B q (some ⟨g,0,none⟩) C d) (hn:d.n≤12) (hi:i<d.n) (hpar:∀ j,j<d.n→-1≤(d.mem j).parent∧(d.mem j).parent≤1000) (J:Act→World→Prop) (Q:Exit→Act→World→Prop)
  (hJ:∀ T' s' w' Av Cv,ctF T' s'→Ag [13,14,15] s s'→s' 13=.slice Av (d.n-1) Cv→w'.ownsRow w.heap.size 43 4 (.slice Av (d.n-1) Cv) (d.n-1) (cellsMb (remD d i).mem (d.n-1))→Below w.heap.size w w'→J ⟨T',[]⟩ w'):Code.wp Tryz.prog (ctC [1,1,1,1,1,1,1,1,1,0,1,3,1,5,1,2,1,1,0]) (Exit.then J Q) ⟨T,[]⟩ w:=by
 rw [show (ctC [1,1,1,1,1,1,1,1,1,0,1,3,1,5,1,2,1,1,0])=(.seq (ctC [1,1,1,1,1,1,1,1,1,0,1,3,1,5,1,2,1,1,0,0]) (.block 1 (.loop (.seq (.seq (ctC [1,1,1,1,1,1,1,1,1,0,1,3,1,5,1,2,1,1,0,1,3,4,0,0]) (.cond (.tmp 160) .skip (.exit 1))) (.seq (.block 2 (.seq (ctC [1,1,1,1,1,1,1,1,1,0,1,3,1,5,1,2,1,1,0,1,3,4,1,0,3,0]) (.seq (.seq (ctC [1,1,1,1,1,1,1,1,1,0,1,3,1,5,1,2,1,1,0,1,3,4,1,0,3,1,0,0]) (.cond (.tmp 171) (ctC [1,1,1,1,1,1,1,1,1,0,1,3,1,5,1,2,1,1,0,1,3,4,1,0,3,1,0,1,2]) .skip)) (.seq (ctC [1,1,1,1,1,1,1,1,1,0,1,3,1,5,1,2,1,1,0,1,3,4,1,0,3,1,1,0]) (.cond (.tmp 178) (ctC [1,1,1,1,1,1,1,1,1,0,1,3,1,5,1,2,1,1,0,1,3,4,1,0,3,1,1,1,2]) .skip))))) (ctC [1,1,1,1,1,1,1,1,1,0,1,3,1,5,1,2,1,1,0,1,3,4,1,1])))))) from rfl]
 obtain ⟨-,-,hcc,-,-⟩:=ow_blk h.row
 refine wp_seq (ctL22 T s w hF _ _ fun T2 hF2=>?_)
 refine for_wp d.n (fun k=>decide (k<d.n)) (by simp)
  (fun k s' w'=>Ag [13,14,15] s s'∧s' 14=.int .i64 (k:Nat)∧Below w.heap.size w w'∧∃ Av Cv,s' 13=.slice Av (lft i k) Cv∧w'.ownsRow w.heap.size 43 4 (.slice Av (lft i k) Cv) (lft i k) (cellsMb (remD d i).mem (lft i k)))
  (fun k s' w'=>Ag [13,14,15] s s'∧s' 14=.int .i64 (k:Nat)∧Below w.heap.size w w'∧∃ Av Cv,s' 13=.slice Av (lft i (k+1)) Cv∧w'.ownsRow w.heap.size 43 4 (.slice Av (lft i (k+1)) Cv) (lft i (k+1)) (cellsMb (remD d i).mem (lft i (k+1))))
  ?_ ?_ ?_ hF2 ⟨(Ag.refl _ _).up (by decide),upG_at _ _ _,Below.refl _ _,none,0,by rw [upG_off _ _ (by decide),h13];rfl,World.ownsRow_nil _ _ _ _⟩ ?_
 ·rintro k T s' w' hk hF ⟨hA,ha,hB,-⟩ K Q hKK
  exact ctL23 T s' q k d.n C (some ⟨g,0,none⟩) w' hF ((hA 10 (by decide)).trans h10) ha (h.later hB).c2 _ _ hKK
 ·rintro k T s' w' hk-hF ⟨hA,ha,hB,Av,Cv,hv,ho⟩ K Q hKK
  have hD:=h.later hB
  obtain ⟨x0,x1,x2,x3⟩:=cellsMb_at d.mem d.n k hk
  have y0:=(hD.row.cellAt (k*4) (by omega)).trans x0
  have y1:=(hD.row.cellAt (k*4+1) (by omega)).trans x1
  have y2:=(hD.row.cellAt (k*4+2) (by omega)).trans x2
  have y3:=(hD.row.cellAt (k*4+3) (by omega)).trans x3
  obtain ⟨hp1,hp2⟩:=hpar k hk
  have hcn:lft i k≤12:=by unfold lft;split <;> omega
  refine wp_seq (ctL25 T s' q g d.n C k (d.mem k).name (d.mem k).formula (d.mem k).parent (d.mem k).sign w' hF ((hA 10 (by decide)).trans h10) ha hD.c2 hk hcc y0 y1 y2 y3 _ _ fun T3 hF3=>?_)
  have hbx:(w'.alloc (.cells #[.string (d.mem k).name,.int .i64 (d.mem k).parent,.int .i64 (d.mem k).sign,.string (d.mem k).formula] 43)).heap[w'.heap.size]?=some (.cells #[.string (d.mem k).name,.int .i64 (d.mem k).parent,.int .i64 (d.mem k).sign,.string (d.mem k).formula] 43 (0,0)):=heap_alloc_new ..
  have hb1:Below w'.heap.size w' (w'.alloc (.cells #[.string (d.mem k).name,.int .i64 (d.mem k).parent,.int .i64 (d.mem k).sign,.string (d.mem k).formula] 43)):=by go_grown
  generalize w'.alloc (.cells #[.string (d.mem k).name,.int .i64 (d.mem k).parent,.int .i64 (d.mem k).sign,.string (d.mem k).formula] 43)=w1 at hbx hb1 ⊢
  have hA3:Ag [13,14,15] s (upG s' 15 (.pointer (some ⟨w'.heap.size,0,none⟩))):=hA.up (by decide)
  have ho1:=own_later ho hb1
  have hnb:(Value.slice Av (lft i k) Cv).ownBlock≠some w'.heap.size:=fun e=>by have:=(ho.lt _ e).2;omega
  have hwle:w.heap.size≤w'.heap.size:=hB.size
  have rest:∀ T4 w2,ctF T4 (upG s' 15 (.pointer (some ⟨w'.heap.size,0,none⟩)))→Below w.heap.size w w2→w2.heap[w'.heap.size]?=some (.cells #[.string (d.mem k).name,.int .i64 (wo i (d.mem k).parent),.int .i64 (d.mem k).sign,.string (d.mem k).formula] 43 (0,0))→w2.ownsRow w.heap.size 43 4 (.slice Av (lft i k) Cv) (lft i k) (cellsMb (remD d i).mem (lft i k))→Code.wp Tryz.prog (.seq (ctC [1,1,1,1,1,1,1,1,1,0,1,3,1,5,1,2,1,1,0,1,3,4,1,0,3,1,1,0]) (.cond (.tmp 178) (ctC [1,1,1,1,1,1,1,1,1,0,1,3,1,5,1,2,1,1,0,1,3,4,1,0,3,1,1,1,2]) .skip)) (Exit.then K Q) ⟨T4,[]⟩ w2:=fun T4 w2 hF4 hB2 hbx2 ho2=>by
   refine wp_seq (ctL28 T4 _ k i w2 hF4 ((hA3 12 (by decide)).trans h12) (by rw [upG_off _ _ (by decide)];exact ha) _ _ fun T5 hF5 he=>?_)
   by_cases hki:k=i
   ·rw [decide_eq_false (by simpa using hki)] at he
    refine wp_cond_false he (wp_skip (hKK T5 _ w2 hF5 ⟨hA3,by rw [upG_off _ _ (by decide)];exact ha,hB2,Av,Cv,?_,?_⟩))
    ·rw [upG_off _ _ (by decide),hv,hki,lft_at]
    ·have ho3:=ho2
     rw [hki] at ho3
     rw [hki,lft_at];exact ho3
   ·rw [decide_eq_true hki] at he
    refine wp_cond_true he (ctL29 T5 _ w'.heap.size w.heap.size (lft i k) Cv Av (cellsMb (remD d i).mem (lft i k)) (d.mem k).name (d.mem k).formula (wo i (d.mem k).parent) (d.mem k).sign w2 hF5 (by rw [upG_off _ _ (by decide)];exact hv) (upG_at _ _ _) hbx2 ho2 hcn (hB2.size) _ _ fun T6 w3 g' c2 hF6 ho3 hgr=>?_)
    obtain ⟨wa,hba,hgr⟩:=hgr
    have hB3:Below w.heap.size w w3:=(onB hB2 hba).grown hgr (Nat.le_trans hB2.size hba.size) (fun j hj=>(ho2.lt j hj).1)
    refine hKK T6 _ w3 hF6 ⟨hA3.up (by decide),by rw [upG_off _ _ (by decide),upG_off _ _ (by decide)];exact ha,hB3,some ⟨g',0,none⟩,c2,?_,?_⟩
    ·rw [upG_at,lft_in hki]
    ·rw [lft_in hki,cellsMb]
     have e:(remD d i).mem (lft i k)=⟨(d.mem k).name,wo i (d.mem k).parent,(d.mem k).sign,(d.mem k).formula⟩:=by
      show (⟨(cutM d.mem i (lft i k)).name,_,_,_⟩:Mem)=_
      rw [cut_lft hki]
     rw [e]
     exact ho3
  refine wp_seq (wp_seq (ctL26 T3 _ w'.heap.size i (d.mem k).parent w1 hF3 ((hA3 12 (by decide)).trans h12) (upG_at _ _ _) ((Lib.cell_of_heap hbx 1).trans rfl) _ _ fun T4 hF4 he=>?_))
  by_cases hip:(i:Int)<(d.mem k).parent
  ·rw [decide_eq_true hip] at he
   refine wp_cond_true he (ctL27 T4 _ w'.heap.size (d.mem k).parent _ _ _ w1 hF4 (upG_at _ _ _) hbx hp1 hp2 _ _ fun T5 hF5=>?_)
   refine rest T5 _ hF5 ((onB hB hb1).setCell (by show w.heap.size≤w'.heap.size;exact hwle) _) ?_ (own_setc ho1 hnb)
   unfold wo
   rw [if_pos hip]
   simp [World.setCell,Array.getElem?_modify,hbx]
  ·rw [decide_eq_false hip] at he
   refine wp_cond_false he (wp_skip (rest T4 w1 hF4 (onB hB hb1) ?_ ho1))
   unfold wo
   rw [if_neg hip]
   exact hbx
 ·rintro k T s' w' hk hF ⟨hA,ha,hB,Av,Cv,hv,ho⟩ K Q hKK
  exact ctL24 T s' k w' hF ha (by omega) _ _ fun T' hF'=>hKK T' _ w' hF' ⟨hA.up (by decide),upG_at _ _ _,hB,Av,Cv,by rw [upG_off _ _ (by decide)];exact hv,ho⟩
 ·rintro k T3 s3 w3 hk hkf hF3 ⟨hA,ha,hB,Av,Cv,hv,ho⟩
  have hke:k=d.n:=by simp at hkf;omega
  subst hke
  have hc:lft i d.n=d.n-1:=by unfold lft;rw [if_neg (by omega)]
  rw [hc] at hv ho
  exact hJ T3 s3 w3 Av Cv hF3 hA hv ho hB
end Go.Proofs.YtfldgghobddgkaaGreatDoor
namespace Go.Proofs.YtfldgghobddgkaaGreatDoor
open Go.ChangeShapes Go.WideShapes Go.ChangeAt Go.RowKit
set_option maxRecDepth 20000
set_option maxHeartbeats 4000000 in
theorem rread_own (s:ByteArray) (w:World) (h100:s.size≤100):Calls Tryz.prog 17 #[.string s] w fun e w'=>(∃ A c,e=.returned (.tuple #[.slice A (prsL s).length c,.int .i64 (prsA s:Int),.int .i64 (prsE s)])∧NdO w' (w.heap.size+1) A c (prsL s))∧Below w.heap.size w w':=by
 have h100':(s.size:Int)≤100:=by omega
 have hc:Calls Tryz.prog 31 #[.pointer (some ⟨w.heap.size,0,none⟩),.int .i64 1] (newI s w) fun e w'=>OutS s w.heap.size (w.heap.size+1) 1 0 [] (newI s w) e w' :=
  (sum_all s w.heap.size (w.heap.size+1) h100 s.size 0 rfl (Nat.zero_le _)).1 (.slice none 0 0) [] (newI s w) (newI_at s w) (Nat.lt_succ_self _) (by rw [newI_size];exact Nat.le_refl _) (World.ownsRow_nil _ _ _ _) (Nat.zero_le _)
 obtain ⟨W,hW⟩:∃ W,newI s w=W:=⟨_,rfl⟩
 have HB0:Hid (∀ w1,Kept (w.heap.size+1) (fun j=>j=w.heap.size) W w1→Below w.heap.size w w1):=fun w1 hk=>by
  rw [←newI_size s w,hW] at hk
  exact below_of_kept (by rw [←hW];exact newI_below s w) hk (Nat.le_refl _)
 rw [hW] at hc
 unfold newI at hW
 have hEn:(goneB s).2=false→prsE s=2∧prsA s=(goneB s).1.at'∧prsL s=[]:=fun hx=>by
  have hE:prsE s=2:=by unfold prsE;rw [if_neg (by omega),if_neg (by rw [hx];decide)]
  exact ⟨hE,by unfold prsA;rw [if_neg (by omega),if_neg (by rw [hx];decide)],by unfold prsL;rw [if_neg (by rw [hE];decide)]⟩
 have hEy:(goneB s).2=true→prsE s=formErr (nodesP s)∧prsA s=0:=fun hx =>
  ⟨by unfold prsE;rw [if_neg (by omega),if_pos hx],by unfold prsA;rw [if_neg (by omega),if_pos hx]⟩
 have HEn:=hid_of hEn
 have HEy:=hid_of hEy
 have HLd:Hid (prsL s=if prsE s=0 then nodesP s else []):=rfl
 clear hEn hEy
 go_enter Tryz.func17,Tryz.ntmps17
 go_wp2_with fail
 refine hc.mono ?_
 rintro e w1 ⟨hK,⟨a1,t,v1,rfl,hR,hN,hI1,hO1,-⟩ | ⟨i,a1,v1,L1,rfl,hF,hI1,hO1⟩⟩
 ·have HB1:=hid_of (HB0.out w1 hK)
  have d1:=hI1.c1
  have d2:=hI1.c2
  have d3:=hI1.c3
  have d5:=hI1.lt
  have ha1:a1≤s.size:=hR.2.1
  by_cases hlt:a1<s.size
  ·obtain ⟨hx,hat⟩:=read_part hR hN hlt
   obtain ⟨hE,hA,hL⟩:=HEn.out hx
   rw [hat] at hA
   have HE:=hid_of hE
   have HA:=hid_of hA
   have HL:=hid_of hL
   have HI1:=hid_of hI1
   have hlti:(a1:Int)<(s.size:Int):=by omega
   clear hK hR hN hI1 hO1 hW hc hx hat hE hA hL d3
   go_wp2_with fail
   go_quiet (fail)
   have HBq:Hid (Below w.heap.size w (w1.drewN nq)):=below_drewN HB1.out _
   have f1:=(HI1.out.later (below_drewN (Below.refl _ _) nq)).c1
   have f5:=(HI1.out.later (below_drewN (Below.refl _ _) nq)).lt
   clear d1 d2
   go_wp2_with fail
   go_returns
   rw [HE.out,HA.out,HL.out]
   exact ⟨⟨none,0,rfl,World.ownsRow_nil _ _ _ _⟩,HBq.out⟩
  ·have he:a1=s.size:=by omega
   subst he
   obtain ⟨hx,hnd⟩:=read_all hR
   obtain ⟨hE,hA⟩:=HEy.out hx
   have hll:([] ++ post t ([]:List Nd).length)=nodesP s:=by rw [hnd];rfl
   rw [hll] at hO1
   obtain ⟨A,c,hv⟩:=own_form hO1
   subst hv
   have hOw:NdO w1 (w.heap.size+1) A c (nodesP s):=hO1
   have hNd:=nds_of hO1
   obtain ⟨fe,hfe⟩:∃ fe,formErr (nodesP s)=fe:=⟨_,rfl⟩
   have HE:Hid (prsE s=fe):=hE.trans hfe
   have HA:=hid_of hA
   have hfm:=fun w' hN'=>rform_any A c (nodesP s) w' hN'
   rw [hfe] at hfm
   obtain ⟨l,hl⟩:∃ l,nodesP s=l:=⟨_,rfl⟩
   have HLn:=hid_of hl
   rw [hl] at hfm hNd d3 hI1 hOw
   have HOw:=hid_of hOw
   have HI1:=hid_of hI1
   have HNd:=hid_of hNd
   clear hK hR hN hI1 hO1 hW hc hx hE hA hnd hll hlt hNd hl hfe hOw
   go_wp2_with fail
   refine (hfm _ HNd.out).mono ?_
   rintro e w2 ⟨rfl,hb2⟩
   have HB2:=hid_of (onB HB1.out hb2)
   have HN2:Hid (NdO w2 (w.heap.size+1) A c l):=own_later HOw.out hb2
   have HI2:=hid_of (HI1.out.later hb2)
   have f3:=HI2.out.c3
   have f5:=HI2.out.lt
   clear hb2 hfm d1 d2 d3 d5
   by_cases h0:fe=0
   ·subst h0
    have HL:Hid (prsL s=l):=by show _=_;rw [HLd.out,HE.out,if_pos rfl];exact HLn.out
    go_wp2_with fail
    go_returns
    rw [HE.out,HA.out,HL.out]
    exact ⟨⟨A,c,rfl,HN2.out⟩,HB2.out⟩
   ·have HL:Hid (prsL s=[]):=by show _=_;rw [HLd.out,HE.out,if_neg h0]
    have h0b:(fe == 0)=false:=by simpa using h0
    have h0c:(fe != 0)=true:=by simpa using h0
    clear h0
    go_wp2_with fail
    go_returns
    rw [HE.out,HA.out,HL.out]
    exact ⟨⟨none,0,rfl,World.ownsRow_nil _ _ _ _⟩,HB2.out⟩
 ·have HB1:=hid_of (HB0.out w1 hK)
  have d1:=hI1.c1
  have d2:=hI1.c2
  have d5:=hI1.lt
  obtain ⟨hx,hat⟩:=read_not hF
  obtain ⟨hE,hA,hL⟩:=HEn.out hx
  rw [hat] at hA
  have HE:=hid_of hE
  have HA:=hid_of hA
  have HL:=hid_of hL
  have HI1:=hid_of hI1
  clear hK hF hI1 hO1 hW hc hx hat hE hA hL
  go_wp2_with fail
  go_quiet (fail)
  have HBq:Hid (Below w.heap.size w (w1.drewN nq)):=below_drewN HB1.out _
  have f1:=(HI1.out.later (below_drewN (Below.refl _ _) nq)).c1
  have f5:=(HI1.out.later (below_drewN (Below.refl _ _) nq)).lt
  clear d1 d2
  go_wp2_with fail
  go_returns
  rw [HE.out,HA.out,HL.out]
  exact ⟨⟨none,0,rfl,World.ownsRow_nil _ _ _ _⟩,HBq.out⟩
end Go.Proofs.YtfldgghobddgkaaGreatDoor
namespace Go.Proofs.YtfldgghobddgkaaGreatDoor
open Go Go.ChangeShapes Go.WideShapes Go.ChangeAt Go.RowKit
set_option maxRecDepth 1000000
set_option maxHeartbeats 64000000
theorem ren_same {old new:ByteArray} {l:List Nd} {j:Nat} (hj:j<l.length) (h:renN old new (l.getD j noN)=l.getD j noN):renTo old new l (j+1)=renTo old new l j:=by
 rw [renTo_one old new l hj,h]
 refine List.ext_getElem? fun m=>?_
 rw [List.getElem?_set]
 split
 ·rename_i e
  subst e
  rw [if_pos (by rw [renTo_len];exact hj)]
  have:=renTo_at old new l hj
  rw [List.getD_eq_getElem?_getD,List.getElem?_eq_getElem (by rw [renTo_len];exact hj)] at this
  rw [List.getElem?_eq_getElem (by rw [renTo_len];exact hj),←this]
  rfl
 ·rfl
theorem ctNds (T:Array Value) (s:Nat→Value) (w:World) (p gf nl cf N:Nat) (L:List Nd) (old nm:ByteArray) (wh dm mb tg sg:Int) (hF:ctF T s) (h5:s 5=.pointer (some ⟨p+1,0,none⟩)) (h19:s 19=.string old) (h21:s 21=.slice (some ⟨gf,0,none⟩) nl cf) (h24:s 24=.bool false) (hnl:L.length=nl) (hn:nl≤1000)
  (hown:w.ownsRow N 62 5 (.slice (some ⟨gf,0,none⟩) nl cf) nl (cellsN L)) (hc:w.heap[p+1]?=some (.cells #[.int .i64 wh,.int .i64 dm,.int .i64 mb,.string nm,.int .i64 tg,.int .i64 sg] 27 (0,0))) (J:Act→World→Prop) (Q:Exit→Act→World→Prop)
  (hJ:∀ T' s' w',ctF T' s'→Ag [24,25] s s'→s' 24=.bool (hasN old L)→w'.ownsRow N 62 5 (.slice (some ⟨gf,0,none⟩) nl cf) nl (cellsN (renL old nm L))→Kept w.heap.size (fun b=>b=gf) w w'→J ⟨T',[]⟩ w'):Code.wp Tryz.prog (ctC [1,1,1,1,1,1,1,1,1,0,1,3,1,5,1,5,1,2,1,1,1,1,0,1,3,4,1,0,3,1,1,1,0]) (Exit.then J Q) ⟨T,[]⟩ w:=by
 rw [show (ctC [1,1,1,1,1,1,1,1,1,0,1,3,1,5,1,5,1,2,1,1,1,1,0,1,3,4,1,0,3,1,1,1,0])=(.seq (ctC [1,1,1,1,1,1,1,1,1,0,1,3,1,5,1,5,1,2,1,1,1,1,0,1,3,4,1,0,3,1,1,1,0,0]) (.block 7 (.loop (.seq (.seq (ctC [1,1,1,1,1,1,1,1,1,0,1,3,1,5,1,5,1,2,1,1,1,1,0,1,3,4,1,0,3,1,1,1,0,1,3,4,0,0]) (.cond (.tmp 290) .skip (.exit 7))) (.seq (.block 8 (.seq (ctC [1,1,1,1,1,1,1,1,1,0,1,3,1,5,1,5,1,2,1,1,1,1,0,1,3,4,1,0,3,1,1,1,0,1,3,4,1,0,3,0]) (.cond (.tmp 307) (.seq (ctC [1,1,1,1,1,1,1,1,1,0,1,3,1,5,1,5,1,2,1,1,1,1,0,1,3,4,1,0,3,1,1,1,0,1,3,4,1,0,3,1,2,0]) (ctC [1,1,1,1,1,1,1,1,1,0,1,3,1,5,1,5,1,2,1,1,1,1,0,1,3,4,1,0,3,1,1,1,0,1,3,4,1,0,3,1,2,1])) .skip))) (ctC [1,1,1,1,1,1,1,1,1,0,1,3,1,5,1,5,1,2,1,1,1,1,0,1,3,4,1,0,3,1,1,1,0,1,3,4,1,1])))))) from rfl]
 obtain ⟨-,hgl,hlc,-,cu,hcu⟩:=ow_blk hown
 have hne:p+1≠gf:=blk_ty hc hcu (by decide)
 have hpl:=(Array.getElem?_eq_some_iff.1 hc).1
 refine wp_seq (ctL53 T s w hF _ _ fun T2 hF2=>?_)
 refine for_wp nl (fun k=>decide (k<nl)) (by simp)
  (fun k s' w'=>Ag [24,25] s s'∧s' 24=.bool (hasN old (L.take k))∧s' 25=.int .i64 (k:Nat)∧w'.ownsRow N 62 5 (.slice (some ⟨gf,0,none⟩) nl cf) nl (cellsN (renTo old nm L k))∧Kept w.heap.size (fun b=>b=gf) w w')
  (fun k s' w'=>Ag [24,25] s s'∧s' 24=.bool (hasN old (L.take (k+1)))∧s' 25=.int .i64 (k:Nat)∧w'.ownsRow N 62 5 (.slice (some ⟨gf,0,none⟩) nl cf) nl (cellsN (renTo old nm L (k+1)))∧Kept w.heap.size (fun b=>b=gf) w w')
  ?_ ?_ ?_ hF2 ⟨(Ag.refl _ _).up (by decide),by rw [upG_off _ _ (by decide)];exact h24,upG_at _ _ _,by simpa [renTo] using hown,Kept.refl _ _ _⟩ ?_
 ·rintro k T s' w' hk hF ⟨hA,ha,hb,ho,hK⟩ K Q hKK
  exact ctL54 T s' k nl cf (some ⟨gf,0,none⟩) w' hF ((hA 21 (by decide)).trans h21) hb _ _ hKK
 ·rintro k T s' w' hk-hF ⟨hA,ha,hb,ho,hK⟩ K Q hKK
  have hkL:k<L.length:=by omega
  have hc':w'.heap[p+1]?=_:=(hK.block _ hpl hne).trans hc
  obtain ⟨x0,-,x2,-,-⟩:=cellsN_at (renTo old nm L k) k (by rw [renTo_len];exact hkL)
  rw [renTo_at old nm L hkL] at x0 x2
  have e0:=(ho.cellAt (k*5) (by omega)).trans x0
  have e2:=(ho.cellAt (k*5+2) (by omega)).trans x2
  have hhas:=hasN_one (old:=old) hkL
  refine wp_seq (ctL56 T s' gf nl cf k (L.getD k noN).op (L.getD k noN).name old w' hF ((hA 19 (by decide)).trans h19) ((hA 21 (by decide)).trans h21) hb hk hlc e0 e2 _ _ fun T3 hF3 he=>?_)
  by_cases hy:(L.getD k noN).op=2∧same (L.getD k noN).name old=true
  ·rw [decide_eq_true hy] at he
   have hset:=cellsN_name (L:=renTo old nm L k) (L.getD k noN) nm (by rw [renTo_len];exact hkL) (renTo_at old nm L hkL)
   have hren:renN old nm (L.getD k noN)=⟨(L.getD k noN).op,(L.getD k noN).n,nm,(L.getD k noN).left,(L.getD k noN).right⟩:=by unfold renN;rw [if_pos hy]
   have hrow:=(ho.stored (k*5+2) (.string nm)).1
   rw [hset,←hren,←renTo_one old nm L hkL] at hrow
   refine wp_cond_true he (wp_seq (ctL57 T3 s' p gf nl cf k nm (L.getD k noN).name w' hF3 ((hA 5 (by decide)).trans h5) ((hA 21 (by decide)).trans h21) hb ((Lib.cell_of_heap hc' 3).trans rfl) hk hlc e2 (ho.frozenAt _) _ _ fun T4 hF4=>?_))
   refine ctL58 T4 s' _ hF4 _ _ fun T5 hF5=>hKK T5 _ _ hF5 ⟨hA.up (by decide),?_,?_,hrow,⟨hK.os,hK.tape,hK.output,by simpa using hK.size,fun i hi hx=>(setCell_off _ _ _ _ _ hx).trans (hK.block i hi hx)⟩⟩
   ·rw [upG_at,hhas,decide_eq_true hy.1,hy.2];simp
   ·rw [upG_off _ _ (by decide)];exact hb
  ·rw [decide_eq_false hy] at he
   have hren:renN old nm (L.getD k noN)=L.getD k noN:=by unfold renN;rw [if_neg hy]
   refine wp_cond_false he (wp_skip (hKK T3 s' w' hF3 ⟨hA,?_,hb,?_,hK⟩))
   ·rw [ha,hhas]
    congr 1
    by_cases h2:(L.getD k noN).op=2
    ·have:same (L.getD k noN).name old=false:=by simpa using fun h=>hy ⟨h2,h⟩
     rw [this];simp
    ·rw [decide_eq_false h2];simp
   ·rw [ren_same hkL hren];exact ho
 ·rintro k T s' w' hk hF ⟨hA,ha,hb,ho,hK⟩ K Q hKK
  exact ctL55 T s' k w' hF hb (by omega) _ _ fun T' hF'=>hKK T' _ w' hF' ⟨hA.up (by decide),by rw [upG_off _ _ (by decide)];exact ha,upG_at _ _ _,ho,hK⟩
 ·rintro k T3 s3 w3 hk hkf hF3 ⟨hA,ha,-,ho,hK⟩
  have hke:k=nl:=by simp at hkf;omega
  subst hke
  refine hJ T3 s3 w3 hF3 hA ?_ ?_ hK
  ·rw [ha,List.take_of_length_le (by omega)]
  ·rw [←renTo_all,hnl];exact ho
def foP (M:Nat→Mem) (k:Nat) (t:ByteArray):Nat→Mem:=fun x=>if x=k then ⟨(M k).name,(M k).parent,(M k).sign,t⟩ else M x
theorem foP_same {M:Nat→Mem} {k:Nat}:foP M k (M k).formula=M:=by
 funext x
 unfold foP
 split
 ·rename_i e;rw [e]
 ·rfl
theorem foP_cells {M:Nat→Mem} {n k:Nat} (hk:k<n) (t:ByteArray):(cellsMb M n).set (k*4+3) (.string t)=cellsMb (foP M k t) n:=by
 have h:=cellsMb_set (M:=M) (n:=n) (i:=k) (f:=3) (v:=.string t) (m:=⟨(M k).name,(M k).parent,(M k).sign,t⟩) hk (by omega) rfl fun f' hf hne=>by
  have:f'=0∨f'=1∨f'=2:=by omega
  rcases this with rfl | rfl | rfl <;> rfl
 rw [h]
 refine congrArg (fun F=>cellsMb F n) ?_
 funext x
 rfl
theorem ctFo (T:Array Value) (s:Nat→Value) (w:World) (p q B g C k:Nat) (d:Dm) (old nm:ByteArray) (wh dm mb tg sg:Int) (hF:ctF T s) (h5:s 5=.pointer (some ⟨p+1,0,none⟩)) (h9:s 9=.int .i64 0) (h10:s 10=.pointer (some ⟨q,0,none⟩)) (h19:s 19=.string old) (h20:s 20=.int .i64 (k:Nat))
  (h:CtD w B q (some ⟨g,0,none⟩) C d) (hk:k<d.n) (hBs:B≤w.heap.size) (hc:w.heap[p+1]?=some (.cells #[.int .i64 wh,.int .i64 dm,.int .i64 mb,.string nm,.int .i64 tg,.int .i64 sg] 27 (0,0))) (hnm:nameErr nm=0) (hfo:(d.mem k).formula.size=0∨((d.mem k).formula.size≤100∧prsE (d.mem k).formula=0)) (J:Act→World→Prop) (Q:Exit→Act→World→Prop) (hex:∀ a w,J a w→Q (.exit 6) a w)
  (hJ:∀ T' s' w',ctF T' s'→Ag [9,21,22,23,24,25,26] s s'→s' 9=.int .i64 (if 100<(refT old nm (d.mem k).formula).size then 4 else 0)→CtD w' B q (some ⟨g,0,none⟩) C ⟨d.name,d.solve,d.n,foP d.mem k (refT old nm (d.mem k).formula)⟩→Kb B q w w'→J ⟨T',[]⟩ w'):Code.wp Tryz.prog (ctC [1,1,1,1,1,1,1,1,1,0,1,3,1,5,1,5,1,2,1,1,1,1,0,1,3,4,1,0,3]) (Exit.then J Q) ⟨T,[]⟩ w:=by
 rw [show (ctC [1,1,1,1,1,1,1,1,1,0,1,3,1,5,1,5,1,2,1,1,1,1,0,1,3,4,1,0,3])=(.seq (.seq (ctC [1,1,1,1,1,1,1,1,1,0,1,3,1,5,1,5,1,2,1,1,1,1,0,1,3,4,1,0,3,0,0]) (.cond (.tmp 275) (.exit 6) .skip)) (.seq (ctC [1,1,1,1,1,1,1,1,1,0,1,3,1,5,1,5,1,2,1,1,1,1,0,1,3,4,1,0,3,1,0]) (.seq (ctC [1,1,1,1,1,1,1,1,1,0,1,3,1,5,1,5,1,2,1,1,1,1,0,1,3,4,1,0,3,1,1,0]) (.seq (ctC [1,1,1,1,1,1,1,1,1,0,1,3,1,5,1,5,1,2,1,1,1,1,0,1,3,4,1,0,3,1,1,1,0]) (.seq (ctC [1,1,1,1,1,1,1,1,1,0,1,3,1,5,1,5,1,2,1,1,1,1,0,1,3,4,1,0,3,1,1,1,1,0]) (.cond (.tmp 314) (.seq (ctC [1,1,1,1,1,1,1,1,1,0,1,3,1,5,1,5,1,2,1,1,1,1,0,1,3,4,1,0,3,1,1,1,1,1,2,0]) (.seq (ctC [1,1,1,1,1,1,1,1,1,0,1,3,1,5,1,5,1,2,1,1,1,1,0,1,3,4,1,0,3,1,1,1,1,1,2,1,0]) (.seq (ctC [1,1,1,1,1,1,1,1,1,0,1,3,1,5,1,5,1,2,1,1,1,1,0,1,3,4,1,0,3,1,1,1,1,1,2,1,1,0]) (.cond (.tmp 328) (ctC [1,1,1,1,1,1,1,1,1,0,1,3,1,5,1,5,1,2,1,1,1,1,0,1,3,4,1,0,3,1,1,1,1,1,2,1,1,1,2]) .skip)))) .skip)))))) from rfl]
 obtain ⟨-,-,hcc,-,-⟩:=ow_blk h.row
 obtain ⟨x0,x1,x2,x3⟩:=cellsMb_at d.mem d.n k hk
 have y3:=(h.row.cellAt (k*4+3) (by omega)).trans x3
 have same0:∀ T' s' w',refT old nm (d.mem k).formula=(d.mem k).formula→(d.mem k).formula.size≤100→ctF T' s'→Ag [9,21,22,23,24,25,26] s s'→s' 9=.int .i64 0→CtD w' B q (some ⟨g,0,none⟩) C d→Kb B q w w'→J ⟨T',[]⟩ w':=fun T' s' w' hr hz hF' hA' h9' hD' hK'=>by
  refine hJ T' s' w' hF' hA' ?_ ?_ hK'
  ·rw [hr,if_neg (by omega)];exact h9'
  ·rw [hr,foP_same];exact hD'
 refine wp_seq (wp_seq (ctL50 T s q g d.n C k (d.mem k).formula w hF h10 h20 h.c2 hk hcc y3 _ _ fun T1 hF1 he=>?_))
 by_cases h0:(d.mem k).formula.size=0
 ·have hem:(d.mem k).formula.toList.isEmpty=true:=by rw [empty_same];simpa using h0
  rw [hem] at he
  refine wp_cond_true he (wp_exit (hex _ _ (same0 T1 s w ?_ (by omega) hF1 (Ag.refl _ _) h9 h (Kept.refl _ _ _))))
  unfold refT;rw [if_pos h0]
 have hem:(d.mem k).formula.toList.isEmpty=false:=by rw [empty_same];simpa using h0
 rw [hem] at he
 obtain ⟨hz,hpe⟩:=hfo.resolve_left h0
 refine wp_cond_false he (wp_skip ?_)
 obtain ⟨fo,hfe⟩:∃ fo,(d.mem k).formula=fo:=⟨_,rfl⟩
 rw [hfe] at y3 hz hpe h0 same0 hJ
 obtain ⟨L,hL⟩:∃ L,prsL fo=L:=⟨_,rfl⟩
 have hfm:formErr L=0:=by
  rw [←hL];exact form_prs hpe
 obtain ⟨hl0,hl30,hg,-⟩:=form_right hfm
 have hrd:=rread_own fo w hz
 rw [hL,hpe] at hrd
 refine wp_seq (ctL51 T1 s q g d.n C k L.length fo (prsA fo:Int) 0 (fun A' c' w'=>NdO w' (w.heap.size+1) A' c' L) w hF1 h10 h20 h.c2 hk hcc y3 (hrd.mono fun e w' ⟨⟨A',c',he,hO⟩,hb⟩=>⟨⟨A',c',he,hO⟩,hb⟩) _ _ fun T2 w1 A' c' hF2 hO hb1=>?_)
 unfold NdO at hO
 rcases hO.2 with ⟨e,e0⟩ | ⟨gf,cf,cur,e,hgN,-⟩
 ·simp only [Value.slice.injEq] at e
  omega
 simp only [Value.slice.injEq] at e
 obtain ⟨rfl,-,rfl⟩:=e
 have hc1:w1.heap[p+1]?=_:=(hb1.block _ (Array.getElem?_eq_some_iff.1 hc).1).trans hc
 refine wp_seq (ctL52 T2 _ w1 hF2 _ _ fun T3 hF3=>?_)
 obtain ⟨s3,hs3⟩:∃ s3,upG (upG (upG (upG s 21 (.slice (some ⟨gf,0,none⟩) L.length c')) 22 (.int .i64 (prsA fo:Int))) 23 (.int .i64 0)) 24 (.bool false)=s3:=⟨_,rfl⟩
 have hA3:Ag [9,21,22,23,24,25,26] s s3:=by rw [←hs3];exact ((((Ag.refl _ _).up (by decide)).up (by decide)).up (by decide)).up (by decide)
 have e39:s3 9=.int .i64 0:=by rw [←hs3,upG_off _ _ (by decide),upG_off _ _ (by decide),upG_off _ _ (by decide),upG_off _ _ (by decide)];exact h9
 have e321:s3 21=.slice (some ⟨gf,0,none⟩) L.length c':=by rw [←hs3,upG_off _ _ (by decide),upG_off _ _ (by decide),upG_off _ _ (by decide),upG_at]
 have e324:s3 24=.bool false:=by rw [←hs3,upG_at]
 rw [hs3] at hF3
 refine wp_seq (ctNds T3 s3 w1 p gf L.length c' (w.heap.size+1) L old nm wh dm mb tg sg hF3 ((hA3 5 (by decide)).trans h5) ((hA3 19 (by decide)).trans h19) e321 e324 rfl (by omega) hO hc1 _ _ fun T4 s4 w2 hF4 hA4 h424 ho4 hK4=>?_)
 have hb2:Below w.heap.size w w2:=below_of_kept hb1 hK4 (by omega)
 have hA34:Ag [9,21,22,23,24,25,26] s s4:=hA3.trans (hA4.wide (by decide))
 have e49:s4 9=.int .i64 0:=(hA4 9 (by decide)).trans e39
 have hD2:=h.later hb2
 refine wp_seq (ctL59 T4 s4 (hasN old L) w2 hF4 h424 _ _ fun T5 hF5 he5=>?_)
 cases hh:hasN old L
 ·rw [hh] at he5
  refine wp_cond_false he5 (wp_skip (same0 T5 s4 w2 ?_ hz hF5 hA34 e49 hD2 (kept_below hb2 hBs)))
  unfold refT
  rw [if_neg h0,hL,hh]
  simp
 ·rw [hh] at he5
  have hfr:=ren_form (old:=old) hnm hfm
  obtain ⟨hr0,hr30,hrg,-⟩:=form_right hfr
  have hln:=renL_len old nm L
  have hRT:refT old nm fo=treT (treeOf (renL old nm L) (L.length-1)):=by
   unfold refT
   rw [if_neg h0,hL,hh,if_pos rfl,print_tree hfr,hln]
  obtain ⟨t,ht⟩:∃ t,refT old nm fo=t:=⟨_,rfl⟩
  rw [ht] at hRT hJ
  have hN2:NdsAt w2 gf 0 (renL old nm L):=by
   have h3:=ho4
   rw [←hln] at h3
   obtain ⟨-,-,e | ⟨b',o',e,hN⟩⟩:=nds_of h3
   ·rw [e] at hr0;simp at hr0
   ·cases e;exact hN
  have htx:=rtext_len gf 0 c' (renL old nm L) hrg hr30 (L.length-1) (by omega) w2 hN2
  rw [hln,←hRT] at htx
  refine wp_cond_true he5 (wp_seq (ctL60 T5 s4 L.length c' (some ⟨gf,0,none⟩) t w2 hF5 ((hA4 21 (by decide)).trans e321) (by omega) (by omega) htx _ _ fun T6 w3 hF6 hb3=>?_))
  have hb23:Below w.heap.size w w3:=onB hb2 hb3
  have hA6:Ag [9,21,22,23,24,25,26] s (upG s4 26 (.string t)):=hA34.up (by decide)
  refine wp_seq (ctL61 T6 _ q B g C k d (foP d.mem k t) t w3 hF6 ((hA6 10 (by decide)).trans h10) ((hA6 20 (by decide)).trans h20) (upG_at _ _ _) (h.later hb23) hk (foP_cells hk t) _ _ fun T7 w4 hF7 hD7 hK7=>?_)
  have hKb:Kb B q w w4:=(kept_below hb23 hBs:Kb B q w w3).trans hK7
  refine wp_seq (ctL62 T7 _ t w4 hF7 (upG_at _ _ _) _ _ fun T8 hF8 he8=>?_)
  by_cases hl:100<t.size
  ·rw [decide_eq_true hl] at he8
   refine wp_cond_true he8 (ctL63 T8 _ w4 hF8 _ _ fun T9 hF9=>hJ T9 _ w4 hF9 (hA6.up (by decide)) ?_ hD7 hKb)
   rw [upG_at,if_pos hl]
  ·rw [decide_eq_false hl] at he8
   refine wp_cond_false he8 (wp_skip (hJ T8 _ w4 hF8 hA6 ?_ hD7 hKb))
   rw [upG_off _ _ (by decide),if_neg hl];exact e49
end Go.Proofs.YtfldgghobddgkaaGreatDoor
