/-
  tallyref2.ReadSheet: a line, its three kinds.
-/
import Derived.Test.YtinebmjpdkjooaaGreatDoorJZBM
import Derived.Test.YtinebmjpdkjooaaGreatDoorJZBU
namespace Go.Proofs.YtinebmjpdkjooaaGreatDoor
open Go Go.ChangeShapes Go.WideShapes Go.ChangeAt Go.RowKit
set_option maxRecDepth 1000000
set_option maxHeartbeats 64000000
theorem int_c (s:ByteArray) (w:World):Calls Tryz.prog 28 #[.string s,.int .i64 7] w fun e w' => ∃ v u,e=.returned (.tuple #[v,u])∧v=.int .i64 (intI s)∧u=.bool (intB s)∧Below w.heap.size w w' :=
 (rint_any7 s w).mono fun _ _ ⟨he,hw⟩=>⟨_,_,he,rfl,rfl,by rw [hw];exact Below.refl _ _⟩
theorem nam_c (s:ByteArray) (w:World) (hs:s.size≤1048576):Calls Tryz.prog 29 #[.string s] w fun e w' => ∃ v,e=.returned v∧v=.bool (nmW s)∧Below w.heap.size w w' :=
 (rnamed_any s w hs).mono fun _ _ ⟨he,hw⟩=>⟨_,he,rfl,hw⟩
def WdA (w:World) (g:Nat) (P:List ByteArray):Prop:=g<w.heap.size∧∀ j,j<P.length→w.cell? ⟨g,j,none⟩=some (.string (wdB P j))
theorem WdA.later {w w':World} {g:Nat} {P:List ByteArray} (h:WdA w g P) (hb:Below w.heap.size w w'):WdA w' g P:=⟨Nat.lt_of_lt_of_le h.1 hb.size,fun j hj=>(hb.cell (p:=⟨g,j,none⟩) h.1).trans (h.2 j hj)⟩
theorem cut_c (c:UInt8) (s:ByteArray) (w:World) (hs:s.size≤1048576):Calls Tryz.prog 27 #[.string s,.int .u8 (c.toNat:Int)] w fun e w' => ∃ v,e=.returned v∧(∃ g cp,v=.slice (some ⟨g,0,none⟩) (piecesC c s).length cp∧WdA w' g (piecesC c s))∧Below w.heap.size w w' :=
 (rcutc_any c s w hs).mono fun _ _ ⟨⟨A,cp,he,_,g,hA,hg,hc⟩,hb⟩=>⟨_,he,⟨g,cp,by rw [hA],hg,hc⟩,hb⟩
theorem all_take {L:List ByteArray} {f:ByteArray→Bool} {k:Nat} (hk:k<L.length):(L.take (k+1)).all f=((L.take k).all f && f (wdB L k)):=by
 rw [List.take_add_one,List.getElem?_eq_getElem hk,List.all_append]
 simp [wdB,List.getD,List.getElem?_eq_getElem hk]
section
variable {q B:Nat} {S:RdQ} {A:Nat→Option Addr} {C:Nat→Nat} {vd va vn:Value} {gw cw:Nat} {P:List ByteArray}
theorem rsDim (T:Array Value) (s:Nat→Value) (w:World) (hF:rsF T s) (h:RsM q B S A C vd va vn w) (HW:WdA w gw P) (h6:s 6=.pointer (some ⟨q,0,none⟩)) (h13:s 13=.slice (some ⟨gw,0,none⟩) P.length cw) (hP:P.length=3) (hz:∀ j,(wdB P j).size≤1048576) (hn:S.dims.length≤1048577) (J:Act→World→Prop) (Q:Exit→Act→World→Prop)
  (hJ:∀ T' s' w' A' C' vd',rsF T' s'→Ag [14,15,16,17] s s'→s' 14=.bool (intB (wdB P 2) && decide (0≤intI (wdB P 2)) && nmW (wdB P 1))→RsM q B ⟨S.dims ++ [⟨wdB P 1,intI (wdB P 2),[]⟩],S.pl,S.num,S.first⟩ A' C' vd' va vn w'→Kept B (fun b=>b=q) w w'→J ⟨T',[]⟩ w'):Code.wp Tryz.prog (rsC [1,1,1,1,1,1,1,0,1,3,4,1,0,3,1,1,0,1,2]) (Exit.then J Q) ⟨T,[]⟩ w:=by
 rw [show (rsC [1,1,1,1,1,1,1,0,1,3,4,1,0,3,1,1,0,1,2])=(.seq (rsC [1,1,1,1,1,1,1,0,1,3,4,1,0,3,1,1,0,1,2,0]) (.seq (rsC [1,1,1,1,1,1,1,0,1,3,4,1,0,3,1,1,0,1,2,1,0]) (.seq (rsC [1,1,1,1,1,1,1,0,1,3,4,1,0,3,1,1,0,1,2,1,1,0]) (rsC [1,1,1,1,1,1,1,0,1,3,4,1,0,3,1,1,0,1,2,1,1,1])))) from rfl]
 refine wp_seq (rsL13 T s gw P.length cw (wdB P 2) (fun v u w'=>v=.int .i64 (intI (wdB P 2))∧u=.bool (intB (wdB P 2))∧Below w.heap.size w w') w hF h13 (by omega) (HW.2 2 (by omega)) (int_c _ w) _ _ fun T1 v u w1 hF1 hX=>?_)
 obtain ⟨rfl,rfl,hb1⟩:=hX
 have HW1:=HW.later hb1
 refine wp_seq (rsL14 T1 _ gw P.length cw (wdB P 1) (fun v w'=>v=.bool (nmW (wdB P 1))∧Below w1.heap.size w1 w') w1 hF1 (by simp [upG,h13]) (by omega) (HW1.2 1 (by omega)) (nam_c _ w1 (hz 1)) _ _ fun T2 v w2 hF2 hX=>?_)
 obtain ⟨rfl,hb2⟩:=hX
 have HW2:=HW1.later hb2
 have hb02:=onB hb1 hb2
 refine wp_seq (rsL15 T2 _ (intI (wdB P 2)) (intB (wdB P 2)) (nmW (wdB P 1)) w2 hF2 (by simp [upG]) (by simp [upG]) (by simp [upG]) _ _ fun T3 hF3=>?_)
 refine rsL16 T3 _ q B S A C vd va vn gw P.length cw (wdB P 1) (intI (wdB P 2)) w2 hF3 (by simp [upG,h6]) (by simp [upG,h13]) (by simp [upG]) (h.later hb02) hn (by omega) (HW2.2 1 (by omega)) _ _ fun T4 w3 A' C' vd' hF4 hM hK=>?_
 exact hJ T4 _ w3 A' C' vd' hF4 (((((Ag.refl _ s).up (by decide)).up (by decide)).up (by decide)).up (by decide)) (by simp [upG]) hM ((kept_onB h.size hb02).trans hK)
theorem rsNms (T:Array Value) (s:Nat→Value) (w:World) (gp cp:Nat) (L:List ByteArray) (b0:Bool) (hF:rsF T s) (HL:WdA w gp L) (h14:s 14=.bool b0) (h25:s 25=.slice (some ⟨gp,0,none⟩) L.length cp) (hl:L.length≤1048577) (hz:∀ j,(wdB L j).size≤1048576) (J:Act→World→Prop) (Q:Exit→Act→World→Prop)
  (hJ:∀ T' s' w',rsF T' s'→Ag [14,26,27] s s'→s' 14=.bool (b0 && L.all nmW)→Below w.heap.size w w'→J ⟨T',[]⟩ w'):Code.wp Tryz.prog (rsC [1,1,1,1,1,1,1,0,1,3,4,1,0,3,1,1,0,1,5,1,5,1,2,1,1,1,0]) (Exit.then J Q) ⟨T,[]⟩ w:=by
 rw [show (rsC [1,1,1,1,1,1,1,0,1,3,4,1,0,3,1,1,0,1,5,1,5,1,2,1,1,1,0])=(.seq (rsC [1,1,1,1,1,1,1,0,1,3,4,1,0,3,1,1,0,1,5,1,5,1,2,1,1,1,0,0]) (.block 3 (.loop (.seq (.seq (rsC [1,1,1,1,1,1,1,0,1,3,4,1,0,3,1,1,0,1,5,1,5,1,2,1,1,1,0,1,3,4,0,0]) (.cond (.tmp 219) .skip (.exit 3))) (.seq (.block 4 (.seq (rsC [1,1,1,1,1,1,1,0,1,3,4,1,0,3,1,1,0,1,5,1,5,1,2,1,1,1,0,1,3,4,1,0,3,0]) (rsC [1,1,1,1,1,1,1,0,1,3,4,1,0,3,1,1,0,1,5,1,5,1,2,1,1,1,0,1,3,4,1,0,3,1]))) (rsC [1,1,1,1,1,1,1,0,1,3,4,1,0,3,1,1,0,1,5,1,5,1,2,1,1,1,0,1,3,4,1,1])))))) from rfl]
 refine wp_seq (rsL43 T s w hF _ _ fun T1 hF1=>?_)
 refine for_wp L.length (fun k=>decide (k<L.length)) (by simp)
  (fun k s' w'=>Ag [14,26,27] s s'∧s' 26=.int .i64 (k:Nat)∧s' 14=.bool (b0 && (L.take k).all nmW)∧Below w.heap.size w w')
  (fun k s' w'=>Ag [14,26,27] s s'∧s' 26=.int .i64 (k:Nat)∧s' 14=.bool (b0 && (L.take (k+1)).all nmW)∧Below w.heap.size w w')
  ?_ ?_ ?_ hF1 ⟨(Ag.refl _ _).up (by decide),upG_at _ _ _,by simp [upG,h14],Below.refl _ _⟩ ?_
 ·rintro k T s' w' hk hF ⟨hA,h26,h14',hb⟩ K Q hKK
  exact rsL44 T s' k L.length cp (some ⟨gp,0,none⟩) w' hF ((hA 25 (by decide)).trans h25) h26 _ _ hKK
 ·rintro k T s' w' hk-hF ⟨hA,h26,h14',hb⟩ K Q hKK
  have HL':=HL.later hb
  refine wp_seq (rsL46 T s' gp L.length cp k (wdB L k) (fun v w2=>v=.bool (nmW (wdB L k))∧Below w'.heap.size w' w2) w' hF ((hA 25 (by decide)).trans h25) h26 hk (HL'.2 k hk) (nam_c _ w' (hz k)) _ _ fun T2 v w2 hF2 hX=>?_)
  obtain ⟨rfl,hb2⟩:=hX
  refine rsL47 T2 _ (b0 && (L.take k).all nmW) (nmW (wdB L k)) w2 hF2 (by simp [upG,h14']) (by simp [upG]) _ _ fun T3 hF3=>?_
  refine hKK T3 _ w2 hF3 ⟨(hA.up (by decide)).up (by decide),by simp [upG,h26],?_,onB hb hb2⟩
  rw [upG_at,all_take hk,Bool.and_assoc]
 ·rintro k T s' w' hk hF ⟨hA,h26,h14',hb⟩ K Q hKK
  exact rsL45 T s' k w' hF h26 (by omega) _ _ fun T' hF'=>hKK T' _ w' hF' ⟨hA.up (by decide),upG_at _ _ _,by simp [upG,h14'],hb⟩
 ·rintro k T3 s3 w3 hk hkf hF3 ⟨hA,-,h14',hb⟩
  have hke:k=L.length:=by simp at hkf;omega
  subst hke
  rw [List.take_length] at h14'
  exact hJ T3 s3 w3 hF3 hA h14' hb
theorem wd_in {L:List ByteArray} {N:Nat} (h:∀ x∈L,x.size≤N) (j:Nat):(wdB L j).size≤N:=by
 unfold wdB
 rw [List.getD]
 by_cases hj:j<L.length
 ·rw [List.getElem?_eq_getElem hj]
  exact h _ (List.getElem_mem hj)
 ·rw [List.getElem?_eq_none (by omega)]
  exact Nat.zero_le _
theorem rsCel (T:Array Value) (s:Nat→Value) (w:World) (i:Nat) (hF:rsF T s) (h:RsM q B S A C vd va vn w) (HW:WdA w gw P) (h7:s 7=va) (h8:s 8=vn) (h9:s 9=.int .i64 (S.first:Nat)) (h12:s 12=.int .i64 (i:Nat)) (h13:s 13=.slice (some ⟨gw,0,none⟩) P.length cw) (hP:P.length=3) (hz:∀ j,(wdB P j).size≤1048576) (hz2:∀ x∈piecesC 46 (wdB P 1),x.size≤1048576) (hn:S.pl.length≤1048577) (J:Act→World→Prop) (Q:Exit→Act→World→Prop)
  (hJ:∀ T' s' w' va' vn',rsF T' s'→Ag [7,8,9,14,23,24,25,26,27] s s'→s' 7=va'→s' 8=vn'→s' 9=.int .i64 ((if S.pl.length=0 then i else S.first:Nat):Int)→s' 14=.bool (intB (wdB P 2) && (piecesC 46 (wdB P 1)).all nmW)→RsM q B ⟨S.dims,S.pl ++ [wdB P 1],S.num ++ [intI (wdB P 2)],if S.pl.length=0 then i else S.first⟩ A C vd va' vn' w'→Kept B (fun b=>b=q) w w'→J ⟨T',[]⟩ w'):Code.wp Tryz.prog (rsC [1,1,1,1,1,1,1,0,1,3,4,1,0,3,1,1,0,1,5,1,5,1,2]) (Exit.then J Q) ⟨T,[]⟩ w:=by
 rw [show (rsC [1,1,1,1,1,1,1,0,1,3,4,1,0,3,1,1,0,1,5,1,5,1,2])=(.seq (rsC [1,1,1,1,1,1,1,0,1,3,4,1,0,3,1,1,0,1,5,1,5,1,2,0]) (.seq (rsC [1,1,1,1,1,1,1,0,1,3,4,1,0,3,1,1,0,1,5,1,5,1,2,1,0]) (.seq (rsC [1,1,1,1,1,1,1,0,1,3,4,1,0,3,1,1,0,1,5,1,5,1,2,1,1,0]) (.seq (rsC [1,1,1,1,1,1,1,0,1,3,4,1,0,3,1,1,0,1,5,1,5,1,2,1,1,1,0]) (.seq (.seq (rsC [1,1,1,1,1,1,1,0,1,3,4,1,0,3,1,1,0,1,5,1,5,1,2,1,1,1,1,0,0]) (.cond (.tmp 233) (rsC [1,1,1,1,1,1,1,0,1,3,4,1,0,3,1,1,0,1,5,1,5,1,2,1,1,1,1,0,1,2]) .skip)) (.seq (rsC [1,1,1,1,1,1,1,0,1,3,4,1,0,3,1,1,0,1,5,1,5,1,2,1,1,1,1,1,0]) (rsC [1,1,1,1,1,1,1,0,1,3,4,1,0,3,1,1,0,1,5,1,5,1,2,1,1,1,1,1,1]))))))) from rfl]
 refine wp_seq (rsL40 T s gw P.length cw (wdB P 2) (fun v u w'=>v=.int .i64 (intI (wdB P 2))∧u=.bool (intB (wdB P 2))∧Below w.heap.size w w') w hF h13 (by omega) (HW.2 2 (by omega)) (int_c _ w) _ _ fun T1 v u w1 hF1 hX=>?_)
 obtain ⟨rfl,rfl,hb1⟩:=hX
 refine wp_seq (rsL41 T1 _ (intB (wdB P 2)) w1 hF1 (by simp [upG]) _ _ fun T2 hF2=>?_)
 have HW1:=HW.later hb1
 refine wp_seq (rsL42 T2 _ gw P.length cw (wdB P 1) (fun v w'=>(∃ g cp,v=.slice (some ⟨g,0,none⟩) (piecesC 46 (wdB P 1)).length cp∧WdA w' g (piecesC 46 (wdB P 1)))∧Below w1.heap.size w1 w') w1 hF2 (by simp [upG,h13]) (by omega) (HW1.2 1 (by omega)) (cut_c 46 _ w1 (hz 1)) _ _ fun T3 v w2 hF3 hX=>?_)
 obtain ⟨⟨gp,cp,rfl,HL⟩,hb2⟩:=hX
 have hb02:=onB hb1 hb2
 have hlen:=piecesC_le 46 (wdB P 1)
 have hz1:=hz 1
 refine wp_seq (rsNms T3 _ w2 gp cp (piecesC 46 (wdB P 1)) (intB (wdB P 2)) hF3 HL (by simp [upG]) (by simp [upG]) (by omega) (wd_in hz2) _ _ fun T4 s4 w3 hF4 hA4 h144 hb3=>?_)
 have hb03:=onB hb02 hb3
 have hAs:Ag [7,8,9,14,23,24,25,26,27] s s4:=(((((Ag.refl _ s).up (by decide)).up (by decide)).up (by decide)).up (by decide)).trans (hA4.wide (by decide))
 have hM3:=h.later hb03
 obtain ⟨A7,c7,hva⟩:=own_formK h.at_
 have e7:s4 7=va:=(hA4 7 (by decide)).trans (by simp [upG,h7])
 have e8:s4 8=vn:=(hA4 8 (by decide)).trans (by simp [upG,h8])
 have e9:s4 9=.int .i64 (S.first:Nat):=(hA4 9 (by decide)).trans (by simp [upG,h9])
 have e12:s4 12=.int .i64 (i:Nat):=(hA4 12 (by decide)).trans (by simp [upG,h12])
 have e13:s4 13=.slice (some ⟨gw,0,none⟩) P.length cw:=(hA4 13 (by decide)).trans (by simp [upG,h13])
 have rest:∀ T5 s5,rsF T5 s5→Ag [9] s4 s5→s5 9=.int .i64 ((if S.pl.length=0 then i else S.first:Nat):Int)→Code.wp Tryz.prog (.seq (rsC [1,1,1,1,1,1,1,0,1,3,4,1,0,3,1,1,0,1,5,1,5,1,2,1,1,1,1,1,0]) (rsC [1,1,1,1,1,1,1,0,1,3,4,1,0,3,1,1,0,1,5,1,5,1,2,1,1,1,1,1,1])) (Exit.then J Q) ⟨T5,[]⟩ w3:=by
  intro T5 s5 hF5 hA5 h95
  refine wp_seq (rsL50 T5 s5 B S.pl.length va _ gw P.length cw (wdB P 1) w3 hF5 ((hA5 7 (by decide)).trans e7) ((hA5 13 (by decide)).trans e13) hM3.at_ hM3.size hn (by omega) ((HW.later hb03).2 1 (by omega)) _ _ fun T6 v7 w4 hF6 hO1 hK1=>?_)
  have ho:w4.ownsRow B 3 1 vn S.pl.length (S.num.map fun x=>.int .i64 x):=own_kept hM3.num fun b hx=>by
   obtain ⟨-,hlt,cur,h3⟩:=own_blk hM3.num hx
   exact hK1.block b hlt fun e=>own_ne hM3.at_ h3 (by decide) e
  refine rsL51 T6 _ B S.pl.length vn _ (intI (wdB P 2)) w4 hF6 (by simp [upG];exact (hA5 8 (by decide)).trans e8) ?_ ho (Nat.le_trans hM3.size hK1.size) hn _ _ fun T7 v8 w5 hF7 hO2 hK2=>?_
  ·rw [upG_off _ _ (by decide),hA5 23 (by decide),hA4 23 (by decide)]
   simp [upG]
  obtain ⟨hM5,hK5⟩:=hM3.cel (i:=i) hO1 hK1 hO2 hK2
  refine hJ T7 _ w5 v7 v8 hF7 (((hAs.trans (hA5.wide (by decide))).up (by decide)).up (by decide)) (by simp [upG]) (by simp [upG]) ?_ ?_ hM5 ((kept_onB h.size hb03).trans hK5)
  ·rw [upG_off _ _ (by decide),upG_off _ _ (by decide)]
   exact h95
  ·rw [upG_off _ _ (by decide),upG_off _ _ (by decide),hA5 14 (by decide)]
   exact h144
 refine wp_seq (wp_seq (rsL48 T4 s4 S.pl.length c7 A7 w3 hF4 (e7.trans hva) _ _ fun T5 hF5 he=>?_))
 by_cases h0:S.pl.length=0
 ·rw [decide_eq_true h0] at he
  exact wp_cond_true he (rsL49 T5 s4 (.int .i64 (i:Nat)) w3 hF5 e12 _ _ fun T6 hF6=>rest T6 _ hF6 ((Ag.refl _ _).up (by decide)) (by rw [upG_at,if_pos h0]))
 ·rw [decide_eq_false h0] at he
  exact wp_cond_false he (wp_skip (rest T5 s4 hF5 (Ag.refl _ _) (by rw [if_neg h0];exact e9)))
end
theorem kept_lowT {N qd:Nat} {w v0 wi:World} (h:Below N w v0) (k:Kept v0.heap.size (fun b=>b=qd) v0 wi) (h1:N≤qd) (h2:N≤v0.heap.size):Below N w wi :=
 ⟨k.os.trans h.os,k.tape.trans h.tape,k.output.trans h.output,Nat.le_trans h.size k.size,fun i hi=>(k.block i (Nat.lt_of_lt_of_le hi h2) fun e=>by omega).trans (h.block i hi)⟩
theorem sgIn_not (x:ByteArray):(decide (x.size=0) || decide (x.size=2) || (decide (2<x.size) && !decide (x.data.toList.getD 1 0=61))) = !sgIn x:=by unfold sgIn;rw [Bool.not_not]
theorem sg_out {x:ByteArray} (h:sgIn x=false):sgOk x=false∧sgI x=0∧foS x=noWd:=by
 refine ⟨?_,?_,?_⟩
 ·unfold sgOk
  unfold sgIn at h
  rw [h]
  rfl
 ·unfold sgI
  rw [h]
  rfl
 ·unfold foS
  rw [h]
  rfl
theorem sg_in {x:ByteArray} (h:sgIn x=true):0<x.size:=by
 unfold sgIn at h
 have : ¬ x.size=0:=fun e=>by simp [e] at h
 omega
theorem sg_of {x:ByteArray} (h:sgIn x=true) (hx:0<x.size):sgOk x=(decide (x[0]=45) || decide (x[0]=126) || decide (x[0]=43))∧sgI x=(if x[0]=45 then -1 else if x[0]=126 then 0 else if x[0]=43 then 1 else 0)∧foS x=(if 2<x.size then x.extract 2 x.size else noWd):=by
 have e:x.data.toList.getD 0 0=x[0]:=by rw [List.getD,byte_atS hx];rfl
 refine ⟨?_,?_,?_⟩
 ·unfold sgOk
  have h':=h
  unfold sgIn at h'
  rw [h',e,Bool.true_and]
 ·unfold sgI
  rw [if_pos h,e]
 ·unfold foS
  simp only [h,true_and]
section
variable {q B:Nat} {S:RdQ} {A:Nat→Option Addr} {C:Nat→Nat} {vd va vn:Value} {gw cw:Nat} {P:List ByteArray}
theorem rsMem (T:Array Value) (s:Nat→Value) (w:World) (l:Nat) (hF:rsF T s) (h:RsM q B S A C vd va vn w) (HW:WdA w gw P) (h6:s 6=.pointer (some ⟨q,0,none⟩)) (h13:s 13=.slice (some ⟨gw,0,none⟩) P.length cw) (hP:P.length=4) (hz:∀ j,(wdB P j).size≤1048576) (hl:S.dims.length=l+1) (hn:S.dims.length≤1048577) (hm:(dmL S.dims l).n≤1048577) (J:Act→World→Prop) (Q:Exit→Act→World→Prop)
  (hJ:∀ T' s' w' A' C' vd',rsF T' s'→Ag [14,18,19,20,21,22] s s'→s' 14=.bool (nmW (wdB P 1) && paOk (wdB P 2) && sgOk (wdB P 3))→RsM q B (addMS S (memR P)) A' C' vd' va vn w'→Kept B (fun b=>b=q) w w'→J ⟨T',[]⟩ w'):Code.wp Tryz.prog (rsC [1,1,1,1,1,1,1,0,1,3,4,1,0,3,1,1,0,1,5,1,2]) (Exit.then J Q) ⟨T,[]⟩ w:=by
 rw [show (rsC [1,1,1,1,1,1,1,0,1,3,4,1,0,3,1,1,0,1,5,1,2])=(.seq (rsC [1,1,1,1,1,1,1,0,1,3,4,1,0,3,1,1,0,1,5,1,2,0]) (.seq (rsC [1,1,1,1,1,1,1,0,1,3,4,1,0,3,1,1,0,1,5,1,2,1,0]) (.seq (.seq (rsC [1,1,1,1,1,1,1,0,1,3,4,1,0,3,1,1,0,1,5,1,2,1,1,0,0]) (.cond (.tmp 122) (.seq (rsC [1,1,1,1,1,1,1,0,1,3,4,1,0,3,1,1,0,1,5,1,2,1,1,0,1,2,0]) (.seq (rsC [1,1,1,1,1,1,1,0,1,3,4,1,0,3,1,1,0,1,5,1,2,1,1,0,1,2,1,0]) (rsC [1,1,1,1,1,1,1,0,1,3,4,1,0,3,1,1,0,1,5,1,2,1,1,0,1,2,1,1]))) .skip)) (.seq (rsC [1,1,1,1,1,1,1,0,1,3,4,1,0,3,1,1,0,1,5,1,2,1,1,1,0]) (.seq (.seq (rsC [1,1,1,1,1,1,1,0,1,3,4,1,0,3,1,1,0,1,5,1,2,1,1,1,1,0,0]) (.cond (.tmp 159) (rsC [1,1,1,1,1,1,1,0,1,3,4,1,0,3,1,1,0,1,5,1,2,1,1,1,1,0,1,2]) (.seq (rsC [1,1,1,1,1,1,1,0,1,3,4,1,0,3,1,1,0,1,5,1,2,1,1,1,1,0,1,5,0]) (rsC [1,1,1,1,1,1,1,0,1,3,4,1,0,3,1,1,0,1,5,1,2,1,1,1,1,0,1,5,1])))) (.seq (rsC [1,1,1,1,1,1,1,0,1,3,4,1,0,3,1,1,0,1,5,1,2,1,1,1,1,1,0]) (rsC [1,1,1,1,1,1,1,0,1,3,4,1,0,3,1,1,0,1,5,1,2,1,1,1,1,1,1]))))))) from rfl]
 refine wp_seq (rsL18 T s gw P.length cw (wdB P 1) w hF h13 (by omega) (HW.2 1 (by omega)) _ _ fun T1 hF1=>?_)
 have hbA:Below w.heap.size w (w.alloc (.cells #[.string (wdB P 1),.int .i64 (-1),.int .i64 0,.string ⟨#[]⟩] 46 (0,0))):=by go_grown
 have hbx:(w.alloc (.cells #[.string (wdB P 1),.int .i64 (-1),.int .i64 0,.string ⟨#[]⟩] 46 (0,0))).heap[w.heap.size]?=some (.cells #[.string (wdB P 1),.int .i64 (-1),.int .i64 0,.string ⟨#[]⟩] 46 (0,0)):=heap_alloc_new _ _
 generalize w.alloc (.cells #[.string (wdB P 1),.int .i64 (-1),.int .i64 0,.string ⟨#[]⟩] 46 (0,0))=W1 at hbA hbx ⊢
 obtain ⟨qm,hqm⟩:∃ qm,w.heap.size=qm:=⟨_,rfl⟩
 rw [hqm] at hbx hF1
 have HW1:=HW.later hbA
 refine wp_seq (rsL19 T1 _ gw P.length cw (wdB P 1) (fun v w'=>v=.bool (nmW (wdB P 1))∧Below W1.heap.size W1 w') W1 hF1 (by simp [upG,h13]) (by omega) (HW1.2 1 (by omega)) (nam_c _ W1 (hz 1)) _ _ fun T2 v w2 hF2 hX=>?_)
 obtain ⟨rfl,hb2⟩:=hX
 have hbx2:=(hb2.block qm (Array.getElem?_eq_some_iff.1 hbx).1).trans hbx
 have hb02:=onB hbA hb2
 have HW2:=HW.later hb02
 have rest3:∀ T3 s3 w3,rsF T3 s3→Ag [14,18,19,20] s s3→s3 18=.pointer (some ⟨qm,0,none⟩)→s3 14=.bool (nmW (wdB P 1) && paOk (wdB P 2))→w3.heap[qm]?=some (.cells #[.string (wdB P 1),.int .i64 (paI (wdB P 2)),.int .i64 0,.string noWd] 46 (0,0))→Below w.heap.size w w3→Code.wp Tryz.prog (.seq (rsC [1,1,1,1,1,1,1,0,1,3,4,1,0,3,1,1,0,1,5,1,2,1,1,1,0]) (.seq (.seq (rsC [1,1,1,1,1,1,1,0,1,3,4,1,0,3,1,1,0,1,5,1,2,1,1,1,1,0,0]) (.cond (.tmp 159) (rsC [1,1,1,1,1,1,1,0,1,3,4,1,0,3,1,1,0,1,5,1,2,1,1,1,1,0,1,2]) (.seq (rsC [1,1,1,1,1,1,1,0,1,3,4,1,0,3,1,1,0,1,5,1,2,1,1,1,1,0,1,5,0]) (rsC [1,1,1,1,1,1,1,0,1,3,4,1,0,3,1,1,0,1,5,1,2,1,1,1,1,0,1,5,1])))) (.seq (rsC [1,1,1,1,1,1,1,0,1,3,4,1,0,3,1,1,0,1,5,1,2,1,1,1,1,1,0]) (rsC [1,1,1,1,1,1,1,0,1,3,4,1,0,3,1,1,0,1,5,1,2,1,1,1,1,1,1])))) (Exit.then J Q) ⟨T3,[]⟩ w3:=by
  intro T3 s3 w3 hF3 hA3 h318 h314 hbx3 hb3
  have HW3:=HW.later hb3
  refine wp_seq (rsL24 T3 s3 gw P.length cw (wdB P 3) w3 hF3 ((hA3 13 (by decide)).trans h13) (by omega) (HW3.2 3 (by omega)) _ _ fun T4 hF4=>?_)
  have rest5:∀ T5 s5 w5,rsF T5 s5→Ag [14,21] s3 s5→s5 14=.bool (nmW (wdB P 1) && paOk (wdB P 2) && sgOk (wdB P 3))→w5.heap[qm]?=some (.cells #[.string (wdB P 1),.int .i64 (paI (wdB P 2)),.int .i64 (sgI (wdB P 3)),.string (foS (wdB P 3))] 46 (0,0))→Below w.heap.size w w5→Code.wp Tryz.prog (.seq (rsC [1,1,1,1,1,1,1,0,1,3,4,1,0,3,1,1,0,1,5,1,2,1,1,1,1,1,0]) (rsC [1,1,1,1,1,1,1,0,1,3,4,1,0,3,1,1,0,1,5,1,2,1,1,1,1,1,1])) (Exit.then J Q) ⟨T5,[]⟩ w5:=by
   intro T5 s5 w5 hF5 hA5 h514 hbx5 hb5
   have hM5:=h.later hb5
   obtain ⟨Ad,cd,hvd⟩:=own_formK h.dm.dims
   have hAs:Ag [14,18,19,20,21,22] s s5:=(hA3.wide (by decide)).trans (hA5.wide (by decide))
   refine wp_seq (rsL37 T5 s5 q S.dims.length l cd Ad w5 hF5 ((hAs 6 (by decide)).trans h6) ((Lib.cell_of_heap hM5.box 0).trans (by rw [hvd];rfl)) hl (by omega) _ _ fun T6 hF6=>?_)
   refine rsL38 T6 _ q B S A C vd va vn qm l (wdB P 1) (foS (wdB P 3)) (paI (wdB P 2)) (sgI (wdB P 3)) w5 hF6 ?_ ?_ (upG_at _ _ _) hM5 hl hn hm hbx5 _ _ fun T7 w7 A' C' vd' hF7 hM hK=>?_
   ·rw [upG_off _ _ (by decide)];exact (hAs 6 (by decide)).trans h6
   ·rw [upG_off _ _ (by decide),hA5 18 (by decide)];exact h318
   ·exact hJ T7 _ w7 A' C' vd' hF7 (hAs.up (by decide)) (by rw [upG_off _ _ (by decide)];exact h514) hM ((kept_onB h.size hb5).trans hK)
  refine wp_seq (wp_seq (rsL25 T4 _ (wdB P 3) w3 hF4 (upG_at _ _ _) _ _ fun T5 hF5 he=>?_))
  rw [sgIn_not] at he
  cases hi:sgIn (wdB P 3) with
  | false =>
   rw [hi] at he
   obtain ⟨e1,e2,e3⟩:=sg_out hi
   refine wp_cond_true he (rsL26 T5 _ w3 hF5 _ _ fun T6 hF6=>rest5 T6 _ w3 hF6 (((Ag.refl _ s3).up (by decide)).up (by decide)) ?_ ?_ hb3)
   ·rw [upG_at,e1,Bool.and_false]
   ·rw [e2,e3];exact hbx3
  | true =>
   rw [hi] at he
   have hx:=sg_in hi
   obtain ⟨e1,e2,e3⟩:=sg_of hi hx
   refine wp_cond_false he (wp_seq (rsSw T5 _ qm (wdB P 1) noWd (wdB P 3) (paI (wdB P 2)) 0 (nmW (wdB P 1) && paOk (wdB P 2)) w3 hF5 ?_ ?_ (upG_at _ _ _) hbx3 hx _ _ fun T6 b' w4 hF6 hb' hbx4 hK4=>?_))
   ·rw [upG_off _ _ (by decide)];exact h314
   ·rw [upG_off _ _ (by decide)];exact h318
   ·have hb4:=kept_lowT hb3 hK4 (by omega) hb3.size
    refine rsFo T6 _ qm (wdB P 1) noWd (wdB P 3) (paI (wdB P 2)) _ w4 hF6 ?_ ?_ hbx4 _ _ fun T7 w5 hF7 hbx5 hK5=>rest5 T7 _ w5 hF7 (((Ag.refl _ s3).up (by decide)).up (by decide)) ?_ ?_ (kept_lowT hb4 hK5 (by omega) hb4.size)
    ·rw [upG_off _ _ (by decide),upG_off _ _ (by decide)];exact h318
    ·rw [upG_off _ _ (by decide),upG_at]
    ·rw [upG_at,hb',e1]
    ·rw [e2,e3];exact hbx5
 refine wp_seq (wp_seq (rsL20 T2 _ gw P.length cw (wdB P 2) w2 hF2 (by simp [upG,h13]) (by omega) (HW2.2 2 (by omega)) _ _ fun T3 hF3 he=>?_))
 have hA2:Ag [14,18,19,20] s (upG (upG s 18 (.pointer (some ⟨qm,0,none⟩))) 14 (.bool (nmW (wdB P 1)))):=((Ag.refl _ s).up (by decide)).up (by decide)
 cases hi:isB (wdB P 2) [45] with
 | true =>
  rw [show ((wdB P 2).toList == [45])=true from hi] at he
  refine wp_cond_false he (wp_skip (rest3 T3 _ w2 hF3 hA2 (by simp [upG]) ?_ ?_ hb02))
  ·rw [upG_at,show paOk (wdB P 2)=true by unfold paOk;rw [hi];rfl,Bool.and_true]
  ·rw [show paI (wdB P 2) = -1 by unfold paI;rw [if_pos hi]];exact hbx2
 | false =>
  rw [show ((wdB P 2).toList == [45])=false from hi] at he
  refine wp_cond_true he (wp_seq (rsL21 T3 _ gw P.length cw (wdB P 2) (fun v u w'=>v=.int .i64 (intI (wdB P 2))∧u=.bool (intB (wdB P 2))∧Below w2.heap.size w2 w') w2 hF3 (by simp [upG,h13]) (by omega) (HW2.2 2 (by omega)) (int_c _ w2) _ _ fun T4 v u w3 hF4 hX=>?_))
  obtain ⟨rfl,rfl,hb3⟩:=hX
  have hbx3:=(hb3.block qm (Array.getElem?_eq_some_iff.1 hbx2).1).trans hbx2
  have hb03:=onB hb02 hb3
  refine wp_seq (rsL22 T4 _ (intI (wdB P 2)) (nmW (wdB P 1)) (intB (wdB P 2)) w3 hF4 (by simp [upG]) (by simp [upG]) (by simp [upG]) _ _ fun T5 hF5=>?_)
  refine rsL23 T5 _ qm (wdB P 1) noWd (-1) 0 (intI (wdB P 2)) w3 hF5 (by simp [upG]) (by simp [upG]) hbx3 _ _ fun T6 w4 hF6 hbx4 hK4=>?_
  refine rest3 T6 _ w4 hF6 (((hA2.up (by decide)).up (by decide)).up (by decide)) (by simp [upG]) ?_ ?_ (kept_lowT hb03 hK4 (by omega) hb03.size)
  ·rw [upG_at,show paOk (wdB P 2)=(intB (wdB P 2) && decide (0≤intI (wdB P 2))) by unfold paOk;rw [hi];rfl,Bool.and_assoc]
  ·rw [show paI (wdB P 2)=intI (wdB P 2) by unfold paI;rw [if_neg (by rw [hi];exact Bool.false_ne_true)]];exact hbx4
end
section
variable {q B:Nat} {S:RdQ} {A:Nat→Option Addr} {C:Nat→Nat} {vd va vn:Value}
theorem rdLine_cel {i:Nat} {P:List ByteArray} (h1:dimB S P=false) (h2:memB S P=false) (h3:celB P=true):rdLine S i P=(⟨S.dims,S.pl ++ [wdB P 1],S.num ++ [intI (wdB P 2)],if S.pl.length=0 then i else S.first⟩,intB (wdB P 2) && (piecesC 46 (wdB P 1)).all nmW):=by
 unfold rdLine
 simp only [h1,h2,h3,if_true,Bool.false_eq_true,if_false]
def lnX:List Nat:=[7,8,9,13,14,15,16,17,18,19,20,21,22,23,24,25,26,27]
theorem rsLine (T:Array Value) (s:Nat→Value) (w:World) (i m cl gl r:Nat) (t:ByteArray) (x:Value) (hF:rsF T s) (h:RsM q B S A C vd va vn w) (h2:s 2=.pointer (some ⟨r,0,none⟩)) (h6:s 6=.pointer (some ⟨q,0,none⟩)) (h7:s 7=va) (h8:s 8=vn) (h9:s 9=.int .i64 (S.first:Nat)) (h10:s 10=.slice (some ⟨gl,0,none⟩) m cl) (h12:s 12=.int .i64 (i:Nat)) (hi:i<m) (ht:w.cell? ⟨gl,i,none⟩=some (.string t)) (hts:t.size≤1048576) (hr:w.heap[r]?=some (.cells #[x] 24 (0,0))) (hrB:r<B) (hrq:r≠q)
  (hn:S.dims.length≤1048577) (hm:(dmL S.dims (S.dims.length-1)).n≤1048577) (hpl:S.pl.length≤1048577) (J Rt:Act→World→Prop)
  (hJ:(rdLine S i (wdsB t)).2=true→∀ T' s' w' A' C' vd' va' vn',rsF T' s'→Ag lnX s s'→s' 7=va'→s' 8=vn'→s' 9=.int .i64 ((rdLine S i (wdsB t)).1.first:Nat)→RsM q B (rdLine S i (wdsB t)).1 A' C' vd' va' vn' w'→Kept B (fun b=>b=q) w w'→J ⟨T',[]⟩ w')
  (hR:(rdLine S i (wdsB t)).2=false→∀ T' s' w',rsF T' s'→s' 2=.pointer (some ⟨r,0,none⟩)→s' 3=.slice none 0 0→s' 4=.int .i64 (i:Nat)→s' 5=.int .i64 2→w'.heap[r]?=some (.cells #[.slice none 0 0] 24 (0,0))→Kept B (fun b=>b=q∨b=r) w w'→Rt ⟨T',[]⟩ w') :
  Code.wp Tryz.prog (rsC [1,1,1,1,1,1,1,0,1,3,4,1,0,3]) (Exit.then J (QR Rt)) ⟨T,[]⟩ w:=by
 rw [show (rsC [1,1,1,1,1,1,1,0,1,3,4,1,0,3])=(.seq (rsC [1,1,1,1,1,1,1,0,1,3,4,1,0,3,0]) (.seq (rsC [1,1,1,1,1,1,1,0,1,3,4,1,0,3,1,0]) (.seq (.seq (rsC [1,1,1,1,1,1,1,0,1,3,4,1,0,3,1,1,0,0]) (.cond (.tmp 61) (rsC [1,1,1,1,1,1,1,0,1,3,4,1,0,3,1,1,0,1,2]) (.seq (rsC [1,1,1,1,1,1,1,0,1,3,4,1,0,3,1,1,0,1,5,0]) (.cond (.tmp 110) (rsC [1,1,1,1,1,1,1,0,1,3,4,1,0,3,1,1,0,1,5,1,2]) (.seq (rsC [1,1,1,1,1,1,1,0,1,3,4,1,0,3,1,1,0,1,5,1,5,0]) (.cond (.tmp 203) (rsC [1,1,1,1,1,1,1,0,1,3,4,1,0,3,1,1,0,1,5,1,5,1,2]) .skip)))))) (.seq (rsC [1,1,1,1,1,1,1,0,1,3,4,1,0,3,1,1,1,0]) (.cond (.tmp 246) (rsC [1,1,1,1,1,1,1,0,1,3,4,1,0,3,1,1,1,1,2]) .skip))))) from rfl]
 have hz:∀ j,(wdB (wdsB t) j).size≤1048576:=fun j=>Nat.le_trans (wdB_size 32 t j) hts
 have h1le:=piecesC_pos 32 t
 refine wp_seq (rsL10 T s gl m cl i t (fun v w'=>(∃ g cp,v=.slice (some ⟨g,0,none⟩) (piecesC 32 t).length cp∧WdA w' g (piecesC 32 t))∧Below w.heap.size w w') w hF h10 h12 hi ht (cut_c 32 t w hts) _ _ fun T1 v w1 hF1 hX=>?_)
 obtain ⟨⟨gw,cw,rfl,HW⟩,hb1⟩:=hX
 refine wp_seq (rsL11 T1 _ w1 hF1 _ _ fun T2 hF2=>?_)
 have hM1:=h.later hb1
 obtain ⟨A7,c7,hva⟩:=own_formK h.at_
 obtain ⟨Ad,cd,hvd⟩:=own_formK h.dm.dims
 have hA2:Ag lnX s (upG (upG s 13 (.slice (some ⟨gw,0,none⟩) (piecesC 32 t).length cw)) 14 (.bool false)):=((Ag.refl _ s).up (by decide)).up (by decide)
 generalize hs2:upG (upG s 13 (.slice (some ⟨gw,0,none⟩) (piecesC 32 t).length cw)) 14 (.bool false)=s2 at hF2 hA2
 have e6:s2 6=.pointer (some ⟨q,0,none⟩):=(hA2 6 (by decide)).trans h6
 have e7:s2 7=va:=by rw [←hs2];simp [upG,h7]
 have e8:s2 8=vn:=by rw [←hs2];simp [upG,h8]
 have e9:s2 9=.int .i64 (S.first:Nat):=by rw [←hs2];simp [upG,h9]
 have e12:s2 12=.int .i64 (i:Nat):=(hA2 12 (by decide)).trans h12
 have e13:s2 13=.slice (some ⟨gw,0,none⟩) (wdsB t).length cw:=by rw [←hs2];simp [upG,wdsB]
 have e14:s2 14=.bool false:=by rw [←hs2];simp [upG]
 have hK1:Kept B (fun b=>b=q) w w1:=kept_onB h.size hb1
 have rest:∀ T3 s3 w3 (S':RdQ) (b:Bool) A' C' vd' va' vn',(S',b)=rdLine S i (wdsB t)→rsF T3 s3→Ag lnX s s3→s3 7=va'→s3 8=vn'→s3 9=.int .i64 (S'.first:Nat)→s3 14=.bool b→RsM q B S' A' C' vd' va' vn' w3→Kept B (fun b=>b=q) w w3→Code.wp Tryz.prog (.seq (rsC [1,1,1,1,1,1,1,0,1,3,4,1,0,3,1,1,1,0]) (.cond (.tmp 246) (rsC [1,1,1,1,1,1,1,0,1,3,4,1,0,3,1,1,1,1,2]) .skip)) (Exit.then J (QR Rt)) ⟨T3,[]⟩ w3:=by
  intro T3 s3 w3 S' b A' C' vd' va' vn' hE hF3 hA3 h37 h38 h39 h314 hM3 hK3
  refine wp_seq (rsL52 T3 s3 b w3 hF3 h314 _ _ fun T4 hF4 he=>?_)
  cases b with
  | true=>exact wp_cond_false he (wp_skip (hJ (by rw [←hE]) T4 s3 w3 A' C' vd' va' vn' hF4 hA3 h37 h38 (by rw [←hE];exact h39) (by rw [←hE];exact hM3) hK3))
  | false =>
   have hr3:w3.heap[r]?=some (.cells #[x] 24 (0,0)):=(hK3.block r hrB hrq).trans hr
   refine wp_cond_true he (rsR53 T4 s3 r x (.int .i64 (i:Nat)) w3 hF4 ((hA3 2 (by decide)).trans h2) ((hA3 12 (by decide)).trans h12) hr3 J Rt fun T5 hF5=>hR (by rw [←hE]) T5 _ _ hF5 ?_ (by simp [upG]) (by simp [upG]) (by simp [upG]) (box1_set hr3) ⟨hK3.os,hK3.tape,hK3.output,by simpa using hK3.size,fun j hj hx=>(setCell_off _ _ _ _ _ fun e=>hx (Or.inr e)).trans (hK3.block j hj fun e=>hx (Or.inl e))⟩)
   rw [upG_off _ _ (by decide),upG_off _ _ (by decide),upG_off _ _ (by decide)]
   exact (hA3 2 (by decide)).trans h2
 refine wp_seq (wp_seq (rsL12 T2 s2 gw (wdsB t).length cw S.pl.length c7 A7 (wdB (wdsB t) 0) w1 hF2 (e7.trans hva) e13 h1le (HW.2 0 h1le) _ _ fun T3 hF3 he=>?_))
 cases hd:dimB S (wdsB t) with
 | true =>
  have he':Act.eval ⟨T3,[]⟩ (.tmp 61)=.bool true:=he.trans (congrArg _ hd)
  have hP:(wdsB t).length=3:=by
   unfold dimB at hd
   simp only [Bool.and_eq_true,decide_eq_true_eq] at hd
   exact hd.1.2
  refine wp_cond_true he' (rsDim T3 s2 w1 hF3 hM1 HW e6 e13 hP hz hn _ _ fun T4 s4 w4 A' C' vd' hF4 hA4 h144 hM4 hK4=>rest T4 s4 w4 ⟨S.dims ++ [⟨wdB (wdsB t) 1,intI (wdB (wdsB t) 2),[]⟩],S.pl,S.num,S.first⟩ _ A' C' vd' va vn (by unfold rdLine;rw [if_pos hd];rfl) hF4 (hA2.trans (hA4.wide (by decide))) ((hA4 7 (by decide)).trans e7) ((hA4 8 (by decide)).trans e8) ((hA4 9 (by decide)).trans e9) h144 hM4 (hK1.trans hK4))
 | false =>
  have he':Act.eval ⟨T3,[]⟩ (.tmp 61)=.bool false:=he.trans (congrArg _ hd)
  refine wp_cond_false he' (wp_seq (rsL17 T3 s2 q gw (wdsB t).length cw S.pl.length c7 S.dims.length cd A7 Ad (wdB (wdsB t) 0) w1 hF3 e6 (e7.trans hva) e13 h1le ((Lib.cell_of_heap hM1.box 0).trans (by rw [hvd];rfl)) (HW.2 0 h1le) _ _ fun T4 hF4 he2=>?_))
  cases hmb:memB S (wdsB t) with
  | true =>
   have he':Act.eval ⟨T4,[]⟩ (.tmp 110)=.bool true:=he2.trans (congrArg _ hmb)
   have hP:(wdsB t).length=4∧0<S.dims.length:=by
    unfold memB at hmb
    simp only [Bool.and_eq_true,decide_eq_true_eq] at hmb
    exact ⟨hmb.1.1.2,hmb.2⟩
   refine wp_cond_true he' (rsMem T4 s2 w1 (S.dims.length-1) hF4 hM1 HW e6 e13 hP.1 hz (by omega) hn hm _ _ fun T5 s5 w5 A' C' vd' hF5 hA5 h145 hM5 hK5=>rest T5 s5 w5 (addMS S (memR (wdsB t))) _ A' C' vd' va vn (by unfold rdLine;rw [if_neg (by rw [hd];exact Bool.false_ne_true),if_pos hmb];rfl) hF5 (hA2.trans (hA5.wide (by decide))) ((hA5 7 (by decide)).trans e7) ((hA5 8 (by decide)).trans e8) ((hA5 9 (by decide)).trans e9) h145 hM5 (hK1.trans hK5))
  | false =>
   have he':Act.eval ⟨T4,[]⟩ (.tmp 110)=.bool false:=he2.trans (congrArg _ hmb)
   refine wp_cond_false he' (wp_seq (rsL39 T4 s2 gw (wdsB t).length cw (wdB (wdsB t) 0) w1 hF4 e13 h1le (HW.2 0 h1le) _ _ fun T5 hF5 he3=>?_))
   cases hc:celB (wdsB t) with
   | true =>
    have he':Act.eval ⟨T5,[]⟩ (.tmp 203)=.bool true:=he3.trans (congrArg _ hc)
    have hP:(wdsB t).length=3:=by
     unfold celB at hc
     simp only [Bool.and_eq_true,decide_eq_true_eq] at hc
     exact hc.2
    refine wp_cond_true he' (rsCel T5 s2 w1 i hF5 hM1 HW e7 e8 e9 e12 e13 hP hz (fun y hy=>Nat.le_trans (pcs_sizes 46 _ y hy) (hz 1)) hpl _ _ fun T6 s6 w6 va' vn' hF6 hA6 h67 h68 h69 h146 hM6 hK6=>rest T6 s6 w6 _ _ A C vd va' vn' (rdLine_cel hd hmb hc).symm hF6 (hA2.trans (hA6.wide (by decide))) h67 h68 h69 h146 hM6 (hK1.trans hK6))
   | false =>
    have he':Act.eval ⟨T5,[]⟩ (.tmp 203)=.bool false:=he3.trans (congrArg _ hc)
    exact wp_cond_false he' (wp_skip (rest T5 s2 w1 S false A C vd va vn (by unfold rdLine;rw [if_neg (by rw [hd];exact Bool.false_ne_true),if_neg (by rw [hmb];exact Bool.false_ne_true),if_neg (by rw [hc];exact Bool.false_ne_true)]) hF5 hA2 e7 e8 e9 e14 hM1 hK1))
end
end Go.Proofs.YtinebmjpdkjooaaGreatDoor
