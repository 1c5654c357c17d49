/-
  tallyref2.ReadSheet: its two loops.
-/
import Derived.Tactics
import Derived.Test.YtinebmjpdkjooaaGreatDoorJZBN
import Derived.Test.YtinebmjpdkjooaaGreatDoorJZBQ
namespace Go.Proofs.YtinebmjpdkjooaaGreatDoor
open Go Go.ChangeShapes Go.WideShapes Go.ChangeAt Go.RowKit
set_option maxRecDepth 1000000
set_option maxHeartbeats 64000000
theorem rdEnd_hit (L:List ByteArray):∀ f k m,k≤m→m<k+f→(∀ j,k≤j→j<m→rdOk L j=true)→rdOk L m=false→rdEnd L f k=some m
 | 0,k,m,h1,h2,_,_=>by omega
 | f+1,k,m,h1,h2,h3,h4=>by
  rw [rdEnd]
  by_cases e:k=m
  ·subst e
   rw [h4]
   rfl
  ·rw [if_pos (h3 k (Nat.le_refl _) (by omega))]
   exact rdEnd_hit L f (k+1) m (by omega) (by omega) (fun j h5 h6=>h3 j (by omega) h6) h4
theorem rdEnd_through (L:List ByteArray):∀ f k,(∀ j,k≤j→j<k+f→rdOk L j=true)→rdEnd L f k=if (wdB L (k+f)).size=0 then none else some (k+f)
 | 0,k,_=>rfl
 | f+1,k,h=>by
  rw [rdEnd,if_pos (h k (Nat.le_refl _) (by omega)),rdEnd_through L f (k+1) fun j h1 h2=>h j (by omega) (by omega),show k+1+f=k+(f+1) by omega]
theorem kept_two {N B q r:Nat} {w v0 wi:World} (h:Below N w v0) (k:Kept B (fun b=>b=q∨b=r) v0 wi) (h1:N≤q) (h2:N≤r) (h3:N≤B):Below N w wi :=
 ⟨k.os.trans h.os,k.tape.trans h.tape,k.output.trans h.output,Nat.le_trans h.size k.size,fun i hi=>(k.block i (by omega) fun e=>by omega).trans (h.block i hi)⟩
theorem ru_allX {D:Nat→Dm} {n:Nat} (h:(ruErr D n).2.2=0):(allErr D n).2.2=0:=by
 by_cases h0:(allErr D n).2.2=0
 ·exact h0
 ·rw [ru0 h0] at h
  exact absurd h h0
theorem rsRet (T:Array Value) (s:Nat→Value) (w:World) (r n c:Nat) (A:Option Addr) (v3 v4 v5:Value) (hF:rsF T s) (h2:s 2=.pointer (some ⟨r,0,none⟩)) (h3:s 3=v3) (h4:s 4=v4) (h5:s 5=v5) (hr:w.heap[r]?=some (.cells #[.slice A n c] 24 (0,0))) (R:Ending→World→Prop) (hR:R (.returned (.tuple #[.agg #[.slice A n c],v3,v4,v5])) w):bodyPost Tryz.prog Tryz.f8 R .ret ⟨T,[]⟩ w:=by
 obtain ⟨xF,rfl⟩:=rs_open hF
 have p0:w.cell? ⟨r,0,none⟩=some (.slice A n c):=(Lib.cell_of_heap hr 0).trans rfl
 refine bodyPost_ret (v:=.tuple #[.agg #[.slice A n c],v3,v4,v5]) (by simp [results,Tryz.results8,go_sem,p0,rsL,h2,h3,h4,h5]) rfl hR
def RdRes (t:ByteArray) (w:World) (e:Ending) (w':World):Prop :=
 (psE t≠0→e=.returned (.tuple #[.agg #[.slice none 0 0],.slice none 0 0,.int .i64 (psK t),.int .i64 (psE t)])) ∧
 (psE t=0→∃ A0 cap A C xs AE ce,e=.returned (.tuple #[.agg #[.slice A0 (psN t) cap],.slice AE xs.length ce,.int .i64 0,.int .i64 0])∧DimsV w' A0 cap (psN t) (psD t) A C∧EnsV w' AE ce xs∧lE xs=psL t)∧Below w.heap.size w w'
theorem rdRes_err {t:ByteArray} {w w':World} {k:Nat} {E:Int} (hE:psE t=E) (hk:psK t=k) (h0:E≠0) (hb:Below w.heap.size w w'):RdRes t w (.returned (.tuple #[.agg #[.slice none 0 0],.slice none 0 0,.int .i64 (k:Nat),.int .i64 E])) w' :=
 ⟨fun _=>by rw [hE,hk],fun h=>absurd (hE.symm.trans h) h0,hb⟩
section
variable {q B r gl cl:Nat} {t:ByteArray}
theorem rsLoop1 (T:Array Value) (s:Nat→Value) (W:World) (hF:rsF T s) (h:RsM q B rd0S (fun _=>none) (fun _=>0) (.slice none 0 0) (.slice none 0 0) (.slice none 0 0) W) (HL:WdA W gl (piecesC 10 t)) (hgl:gl<B) (hglq:gl≠q) (h2:s 2=.pointer (some ⟨r,0,none⟩)) (h6:s 6=.pointer (some ⟨q,0,none⟩)) (h7:s 7=.slice none 0 0) (h8:s 8=.slice none 0 0) (h9:s 9=.int .i64 (0:Nat)) (h10:s 10=.slice (some ⟨gl,0,none⟩) (piecesC 10 t).length cl) (h11:s 11=.int .i64 (((piecesC 10 t).length-1:Nat):Int)) (hts:t.size≤1048576) (hr:W.heap[r]?=some (.cells #[.slice none 0 0] 24 (0,0))) (hrB:r<B) (hrq:r≠q) (J Rt:Act→World→Prop)
  (hJ:(∀ j,j<(piecesC 10 t).length-1→rdOk (piecesC 10 t) j=true)→∀ T' s' w' A C vd va vn,rsF T' s'→Ag (12 :: lnX) s s'→s' 7=va→s' 8=vn→s' 9=.int .i64 ((psS t).first:Nat)→RsM q B (psS t) A C vd va vn w'→Kept B (fun b=>b=q) W w'→J ⟨T',[]⟩ w')
  (hR:∀ k,k<(piecesC 10 t).length-1→(∀ j,j<k→rdOk (piecesC 10 t) j=true)→rdOk (piecesC 10 t) k=false→∀ T' s' w',rsF T' s'→s' 2=.pointer (some ⟨r,0,none⟩)→s' 3=.slice none 0 0→s' 4=.int .i64 (k:Nat)→s' 5=.int .i64 2→w'.heap[r]?=some (.cells #[.slice none 0 0] 24 (0,0))→Kept B (fun b=>b=q∨b=r) W w'→Rt ⟨T',[]⟩ w') :
  Code.wp Tryz.prog (rsC [1,1,1,1,1,1,1,0]) (Exit.then J (QR Rt)) ⟨T,[]⟩ W:=by
 rw [show (rsC [1,1,1,1,1,1,1,0])=(.seq (rsC [1,1,1,1,1,1,1,0,0]) (.block 0 (.loop (.seq (.seq (rsC [1,1,1,1,1,1,1,0,1,3,4,0,0]) (.cond (.tmp 40) .skip (.exit 0))) (.seq (.block 1 (rsC [1,1,1,1,1,1,1,0,1,3,4,1,0,3])) (rsC [1,1,1,1,1,1,1,0,1,3,4,1,1])))))) from rfl]
 have hle:=piecesC_le 10 t
 have hpos:=piecesC_pos 10 t
 obtain ⟨L,hL⟩:∃ L,piecesC 10 t=L:=⟨_,rfl⟩
 have hS:psS t=rdTo L (L.length-1):=by unfold psS;rw [hL]
 have hz:∀ j,(wdB L j).size≤1048576:=fun j=>by rw [←hL];exact Nat.le_trans (wdB_size 10 t j) hts
 rw [hS] at hJ
 rw [hL] at HL h10 h11 hJ hR hle hpos
 refine wp_seq (rsL7 T s W hF _ _ fun T1 hF1=>?_)
 refine for_wpr (L.length-1) (fun k=>decide (k<L.length-1)) (by simp)
  (fun k s' w' => ∃ A C vd va vn,Ag (12 :: lnX) s s'∧s' 12=.int .i64 (k:Nat)∧s' 7=va∧s' 8=vn∧s' 9=.int .i64 ((rdTo L k).first:Nat)∧(∀ j,j<k→rdOk L j=true)∧RsM q B (rdTo L k) A C vd va vn w'∧Kept B (fun b=>b=q) W w')
  (fun k s' w' => ∃ A C vd va vn,Ag (12 :: lnX) s s'∧s' 12=.int .i64 (k:Nat)∧s' 7=va∧s' 8=vn∧s' 9=.int .i64 ((rdTo L (k+1)).first:Nat)∧(∀ j,j<k+1→rdOk L j=true)∧RsM q B (rdTo L (k+1)) A C vd va vn w'∧Kept B (fun b=>b=q) W w')
  ?_ ?_ ?_ hF1 ⟨_,_,_,_,_,(Ag.refl _ _).up (by decide),upG_at _ _ _,by simp [upG,h7],by simp [upG,h8],by simp [upG,h9,rdTo,rd0S],fun j hj=>absurd hj (Nat.not_lt_zero _),h,Kept.refl _ _ _⟩ ?_
 ·rintro k T s' w' hk hF ⟨A,C,vd,va,vn,hA,h12,-⟩ K Q hKK
  exact rsL8 T s' k (L.length-1) w' hF ((hA 11 (by decide)).trans h11) h12 _ _ hKK
 ·rintro k T s' w' hk-hF ⟨A,C,vd,va,vn,hA,h12,h7',h8',h9',hok,hM,hK⟩ K hKK
  obtain ⟨d1,d2,d3⟩:=rdTo_dims L k
  have d4:=rdTo_last L k
  have hgw:w'.cell? ⟨gl,k,none⟩=some (.string (wdB L k)):=(World.cell?_of_block (a:=⟨gl,k,none⟩) (hK.block gl hgl hglq)).trans (HL.2 k (by omega))
  refine rsLine T s' w' k L.length cl gl r (wdB L k) _ hF hM ((hA 2 (by decide)).trans h2) ((hA 6 (by decide)).trans h6) h7' h8' h9' ((hA 10 (by decide)).trans h10) h12 (by omega) hgw (hz k) ((hK.block r hrB hrq).trans hr) hrB hrq (by omega) (by omega) (by omega) K Rt ?_ ?_
  ·intro hk2 T2 s2 w2 A' C' vd' va' vn' hF2 hA2 h72 h82 h92 hM2 hK2
   refine hKK T2 s2 w2 hF2 ⟨A',C',vd',va',vn',hA.trans (hA2.wide (by decide)),(hA2 12 (by decide)).trans h12,h72,h82,h92,fun j hj=>?_,hM2,hK.trans hK2⟩
   by_cases e:j=k
   ·rw [e];exact hk2
   ·exact hok j (by omega)
  ·intro hk2 T2 s2 w2 hF2 h22 h32 h42 h52 hr2 hK2
   exact hR k hk hok hk2 T2 s2 w2 hF2 h22 h32 h42 h52 hr2 ⟨hK2.os.trans hK.os,hK2.tape.trans hK.tape,hK2.output.trans hK.output,Nat.le_trans hK.size hK2.size,fun i hi hx=>(hK2.block i hi hx).trans (hK.block i hi fun e=>hx (Or.inl e))⟩
 ·rintro k T s' w' hk hF ⟨A,C,vd,va,vn,hA,h12,h7',h8',h9',hok,hM,hK⟩ K Q hKK
  exact rsL9 T s' k w' hF h12 (by omega) _ _ fun T' hF'=>hKK T' _ w' hF' ⟨A,C,vd,va,vn,hA.up (by decide),upG_at _ _ _,by simp [upG,h7'],by simp [upG,h8'],by simp [upG,h9'],hok,hM,hK⟩
 ·rintro k T3 s3 w3 hk hkf hF3 ⟨A,C,vd,va,vn,hA,-,h7',h8',h9',hok,hM,hK⟩
  have hke:k=L.length-1:=by simp at hkf;omega
  subst hke
  exact hJ hok T3 s3 w3 A C vd va vn hF3 hA h7' h8' h9' hM hK
end
section
variable {q B n cap:Nat} {A0:Option Addr} {D:Nat→Dm} {A:Nat→Option Addr} {C:Nat→Nat} {S:RdQ} {r:Nat}
theorem rsLoop2 (T:Array Value) (s:Nat→Value) (W:World) (va vn:Value) (hF:rsF T s) (hO7:W.ownsRow B 9 1 va S.pl.length (S.pl.map fun t=>.string t)) (hO8:W.ownsRow B 3 1 vn S.pl.length (S.num.map fun x=>.int .i64 x)) (hnl:S.num.length=S.pl.length) (hq:W.heap[q]?=some (.cells #[.slice A0 n cap] 24 (0,0))) (hM:DimsV W A0 cap n D A C) (hE:(allErr D n).2.2=0) (h2:s 2=.pointer (some ⟨r,0,none⟩)) (h6:s 6=.pointer (some ⟨q,0,none⟩)) (h7:s 7=va) (h8:s 8=vn) (h9:s 9=.int .i64 (S.first:Nat)) (h29:s 29=.slice none 0 0) (hN:S.pl.length≤1048576) (hfi:0<S.pl.length→S.first≤1048577) (hS:∀ p∈S.pl,p.size≤1048576) (hr:W.heap[r]?=some (.cells #[.slice none 0 0] 24 (0,0))) (J Rt:Act→World→Prop)
  (hJ:ebad D n S = -1→∀ T' s' w' xs,rsF T' s'→Ag [29,30,31,32] s s'→w'.ownsRow W.heap.size 51 2 (s' 29) xs.length (cellsE xs)→lE xs=esL D n S→(∀ x∈xs,PlTy w' x.A x.c x.e.pl)→Below W.heap.size W w'→J ⟨T',[]⟩ w')
  (hR:∀ k:Nat,ebad D n S=k→parseErr D n (S.pl.getD k noWd)≠0→∀ T' s' w',rsF T' s'→s' 2=.pointer (some ⟨r,0,none⟩)→s' 3=.slice none 0 0→s' 4=.int .i64 ((S.first+k:Nat):Int)→s' 5=.int .i64 (parseErr D n (S.pl.getD k noWd))→w'.heap[r]?=some (.cells #[.slice none 0 0] 24 (0,0))→Kept W.heap.size (fun b=>b=r) W w'→Rt ⟨T',[]⟩ w') :
  Code.wp Tryz.prog (rsC [1,1,1,1,1,1,1,1,1,1,1,1,0]) (Exit.then J (QR Rt)) ⟨T,[]⟩ W:=by
 rw [show (rsC [1,1,1,1,1,1,1,1,1,1,1,1,0])=(.seq (rsC [1,1,1,1,1,1,1,1,1,1,1,1,0,0]) (.block 5 (.loop (.seq (.seq (rsC [1,1,1,1,1,1,1,1,1,1,1,1,0,1,3,4,0,0]) (.cond (.tmp 265) .skip (.exit 5))) (.seq (.block 6 (.seq (rsC [1,1,1,1,1,1,1,1,1,1,1,1,0,1,3,4,1,0,3,0]) (.seq (.seq (rsC [1,1,1,1,1,1,1,1,1,1,1,1,0,1,3,4,1,0,3,1,0,0]) (.cond (.tmp 278) (rsC [1,1,1,1,1,1,1,1,1,1,1,1,0,1,3,4,1,0,3,1,0,1,2]) .skip)) (rsC [1,1,1,1,1,1,1,1,1,1,1,1,0,1,3,4,1,0,3,1,1])))) (rsC [1,1,1,1,1,1,1,1,1,1,1,1,0,1,3,4,1,1])))))) from rfl]
 have hql:=(Array.getElem?_eq_some_iff.1 hq).1
 have hrl:=(Array.getElem?_eq_some_iff.1 hr).1
 have hc:∀ w',Below W.heap.size W w'→w'.cell? ⟨q,0,none⟩=some (.slice A0 n cap):=fun w' hb=>(hb.cell (p:=⟨q,0,none⟩) hql).trans ((Lib.cell_of_heap hq 0).trans rfl)
 obtain ⟨A7,c7,hva⟩:=own_formK hO7
 refine wp_seq (rsL60 T s W hF _ _ fun T1 hF1=>?_)
 refine for_wpr S.pl.length (fun k=>decide (k<S.pl.length)) (by simp)
  (fun k s' w' => ∃ xs:List EnL,xs.length=k∧lE xs=(esL D n S).take k∧Ag [29,30,31,32] s s'∧s' 30=.int .i64 (k:Nat)∧w'.ownsRow W.heap.size 51 2 (s' 29) k (cellsE xs)∧(∀ x∈xs,PlTy w' x.A x.c x.e.pl)∧(∀ j,j<k→badE D n S j=false)∧Below W.heap.size W w')
  (fun k s' w' => ∃ xs:List EnL,xs.length=k+1∧lE xs=(esL D n S).take (k+1)∧Ag [29,30,31,32] s s'∧s' 30=.int .i64 (k:Nat)∧w'.ownsRow W.heap.size 51 2 (s' 29) (k+1) (cellsE xs)∧(∀ x∈xs,PlTy w' x.A x.c x.e.pl)∧(∀ j,j<k+1→badE D n S j=false)∧Below W.heap.size W w')
  ?_ ?_ ?_ hF1 ⟨[],rfl,rfl,(Ag.refl _ _).up (by decide),upG_at _ _ _,by rw [upG_off _ _ (by decide),h29];exact World.ownsRow_nil _ _ _ 2,fun x hx=>(by cases hx),fun j hj=>absurd hj (Nat.not_lt_zero _),Below.refl _ _⟩ ?_
 ·rintro k T s' w' hk hF ⟨xs,-,-,hA,h30,-⟩ K Q hKK
  exact rsL61 T s' k S.pl.length c7 A7 w' hF (((hA 7 (by decide)).trans h7).trans hva) h30 _ _ hKK
 ·rintro k T s' w' hk-hF ⟨xs,hxl,hxe,hA,h30,hO,hP,hno,hB⟩ K hKK
  have hO7':=own_later hO7 hB
  have hO8':=own_later hO8 hB
  obtain ⟨g7,d7,e7,-,hg7⟩:=hO7'.form (by omega)
  obtain ⟨g8,d8,e8,-,hg8⟩:=hO8'.form (by omega)
  have hkp:k<S.pl.length:=hk
  have c7:w'.cell? ⟨g7,k,none⟩=some (.string (S.pl.getD k noWd)):=by
   subst e7
   have:=hO7'.cellAt k (by omega)
   rw [this]
   simp [List.getD,List.getElem?_eq_getElem hkp]
  have c8:w'.cell? ⟨g8,k,none⟩=some (.int .i64 (S.num.getD k 0)):=by
   subst e8
   have:=hO8'.cellAt k (by omega)
   rw [this]
   simp [List.getD,List.getElem?_eq_getElem (show k<S.num.length by omega)]
  have hps:(S.pl.getD k noWd).size≤1048576:=by
   rw [List.getD_eq_getElem?_getD,List.getElem?_eq_getElem hkp]
   exact hS _ (List.getElem_mem hkp)
  have hpa:parseErr D n (S.pl.getD k noWd)=readErr D n (S.pl.getD k noWd):=pa1 hE
  refine wp_seq (rsL63 T s' q g7 S.pl.length d7 k (.slice A0 n cap) (S.pl.getD k noWd) (fun v u w2 => ∃ A' c',v=.slice A' (readV D n (S.pl.getD k noWd)).length c'∧u=.int .i64 (readErr D n (S.pl.getD k noWd))∧PlTy w2 A' c' (readV D n (S.pl.getD k noWd))∧Below w'.heap.size w' w2) w' hF ((hA 6 (by decide)).trans h6) (((hA 7 (by decide)).trans h7).trans e7) h30 (hc w' hB) hk c7 (fun w2 hb=>?_) _ _ fun T2 v u w2 hF2 hX=>?_)
  ·exact (rrdpl_ty A0 cap n D A C (S.pl.getD k noWd) w2 hE hps (hM.later (onB hB hb))).mono fun _ _ ⟨⟨A',c',he,hp⟩,hb2⟩=>⟨_,_,he,A',c',rfl,rfl,hp,onB hb hb2⟩
  obtain ⟨A',c',rfl,rfl,hpl,hb2⟩:=hX
  have hB2:=onB hB hb2
  refine wp_seq (wp_seq (rsL64 T2 _ (readErr D n (S.pl.getD k noWd)) w2 hF2 (upG_at _ _ _) _ _ fun T3 hF3 he=>?_))
  by_cases h0:readErr D n (S.pl.getD k noWd)=0
  ·rw [decide_eq_true h0] at he
   have hb0:badE D n S k=false:=by unfold badE;rw [hpa,h0];rfl
   have hV:readV D n (S.pl.getD k noWd)=parseL D n (S.pl.getD k noWd):=by unfold readV parseL;rw [if_pos h0,hpa,if_pos h0]
   rw [hV] at hpl hF3
   have hO2:=own_later hO hb2
   refine wp_cond_false he (wp_skip (rsL66 T3 _ W.heap.size k g8 S.pl.length d8 k (parseL D n (S.pl.getD k noWd)).length c' (s' 29) A' (S.num.getD k 0) (cellsE xs) w2 hF3 ?_ ?_ ?_ ?_ hO2 (Nat.le_trans hB.size hb2.size) (by omega) hk ((hb2.cell (p:=⟨g8,k,none⟩) hg8).trans c8) _ _ fun T4 v4 w4 hF4 hO4 hK4=>?_))
   ·rw [upG_off _ _ (by decide),upG_off _ _ (by decide)];exact ((hA 8 (by decide)).trans h8).trans e8
   ·rw [upG_off _ _ (by decide),upG_off _ _ (by decide)]
   ·rw [upG_off _ _ (by decide),upG_off _ _ (by decide)];exact h30
   ·rw [upG_off _ _ (by decide),upG_at]
   have hkeep:∀ {A c L},PlTy w2 A c L→PlTy w4 A c L:=fun {A c L} h=>by
    obtain ⟨p1,p2 | ⟨b,o,cs,fr',p2,p3,p4⟩⟩:=h
    ·exact ⟨p1,Or.inl p2⟩
    ·have hbb:w4.heap[b]?=w2.heap[b]?:=hK4.block b (Array.getElem?_eq_some_iff.1 p3).1 fun e=>own_ne hO2 p3 ent_ne_int e
     exact ⟨p1,Or.inr ⟨b,o,cs,fr',p2,hbb.trans p3,fun j hj=>(World.cell?_of_block (a:=⟨b,o+j,none⟩) hbb).trans (p4 j hj)⟩⟩
   refine hKK T4 _ w4 hF4 ⟨xs ++ [⟨⟨parseL D n (S.pl.getD k noWd),S.num.getD k 0⟩,A',c'⟩],by simp [hxl],?_,((hA.up (by decide)).up (by decide)).up (by decide),?_,?_,?_,?_,?_⟩
   ·rw [esL_take hk,←hxe]
    simp [lE,enOf]
   ·rw [upG_off _ _ (by decide),upG_off _ _ (by decide),upG_off _ _ (by decide)];exact h30
   ·rw [upG_at,cellsE_append];exact hO4
   ·intro x hx
    rcases List.mem_append.1 hx with hx | hx
    ·exact hkeep ((hP x hx).later hb2)
    ·rw [List.mem_singleton] at hx
     subst hx
     exact hkeep hpl
   ·intro j hj
    by_cases e:j=k
    ·rw [e];exact hb0
    ·exact hno j (by omega)
   ·exact ⟨hK4.os.trans hB2.os,hK4.tape.trans hB2.tape,hK4.output.trans hB2.output,Nat.le_trans hB2.size hK4.size,fun i hi=>(hK4.block i (Nat.lt_of_lt_of_le hi hB2.size) fun e=>by have:=(hO2.lt i e).1;omega).trans (hB2.block i hi)⟩
  ·rw [decide_eq_false h0] at he
   have hbd:badE D n S k=true:=by unfold badE;rw [hpa];exact decide_eq_true h0
   have hyes:ebad D n S=k:=findFrom_at (Nat.zero_le _) (by omega) hbd fun j _ hj=>hno j hj
   have hr2:=(hB2.block r hrl).trans hr
   refine wp_cond_true he (wp_qr (rsR65 T3 _ r _ S.first k (.int .i64 (readErr D n (S.pl.getD k noWd))) w2 hF3 ?_ ?_ ?_ (upG_at _ _ _) hr2 (by have:=hfi (by omega);omega) _ Rt fun T4 hF4=>hR k hyes (by rw [hpa];exact h0) T4 _ _ hF4 ?_ (by simp [upG]) (by simp [upG]) (by rw [upG_at,hpa]) (box1_set hr2) ⟨hB2.os,hB2.tape,hB2.output,by simpa using hB2.size,fun i hi hx=>(setCell_off _ _ _ _ _ hx).trans (hB2.block i hi)⟩) fun _ _ h=>h)
   ·rw [upG_off _ _ (by decide),upG_off _ _ (by decide)];exact (hA 2 (by decide)).trans h2
   ·rw [upG_off _ _ (by decide),upG_off _ _ (by decide)];exact (hA 9 (by decide)).trans h9
   ·rw [upG_off _ _ (by decide),upG_off _ _ (by decide)];exact h30
   ·rw [upG_off _ _ (by decide),upG_off _ _ (by decide),upG_off _ _ (by decide),upG_off _ _ (by decide),upG_off _ _ (by decide)];exact (hA 2 (by decide)).trans h2
 ·rintro k T s' w' hk hF ⟨xs,hxl,hxe,hA,h30,hO,hP,hno,hB⟩ K Q hKK
  exact rsL62 T s' k w' hF h30 (by omega) _ _ fun T' hF'=>hKK T' _ w' hF' ⟨xs,hxl,hxe,hA.up (by decide),upG_at _ _ _,by rw [upG_off _ _ (by decide)];exact hO,hP,hno,hB⟩
 ·rintro k T3 s3 w3 hk hkf hF3 ⟨xs,hxl,hxe,hA,-,hO,hP,hno,hB⟩
  have hke:k=S.pl.length:=by simp at hkf;omega
  subst hke
  refine hJ (findFrom_none fun j _ hj=>hno j (by omega)) T3 s3 w3 xs hF3 hA (by rw [hxl];exact hO) ?_ hP hB
  rw [hxe,List.take_of_length_le]
  unfold esL
  rw [List.length_map,List.length_range]
  exact Nat.le_refl _
end
theorem rs_start (a0:Value):rsF (#[a0] ++ Array.replicate 301 undef) (fun i=>[a0].getD i undef)∧(fun i=>[a0].getD i undef:Nat→Value) 0=a0 :=
 ⟨⟨by simp,by rw [Array.toList_append,Array.toList_replicate];rfl⟩,rfl⟩
theorem empty_l (x:ByteArray):x.toList.isEmpty=decide (x.size=0):=by
 rw [ByteArray.toList_eq]
 have hl:x.data.toList.length=x.size:=by simp
 rw [←hl]
 cases x.data.toList with
 | nil=>rfl
 | cons a l=>simp
theorem rsheet_any (t:ByteArray) (w:World) (ht:t.size≤1048576):Calls Tryz.prog 8 #[.string t] w fun e w'=>RdRes t w e w':=by
 refine calls_of_wp (c:=rsC []) Tryz.func8 rfl ?_
 rw [Tryz.ntmps8]
 simp only [List.size_toArray,List.length_cons,List.length_nil,Nat.reduceAdd,Nat.reduceSub]
 obtain ⟨hF,h0⟩:=rs_start (.string t)
 generalize (#[.string t] ++ Array.replicate 301 undef:Array Value)=T at hF ⊢
 generalize (fun i=>[.string t].getD i undef:Nat→Value)=s at hF h0
 obtain ⟨Rt,hRt⟩:∃ Rt:Act→World→Prop,Rt=fun a w'=>bodyPost Tryz.prog Tryz.f8 (fun e w'=>RdRes t w e w') .ret a w':=⟨_,rfl⟩
 refine wp_mono (Q:=QR Rt) ?_ (fun e a w' h=>by cases e <;> first | exact h.elim | (rw [hRt] at h;exact h))
 have fin:∀ T' s' w' n c A v3 v4 v5,rsF T' s'→s' 2=.pointer (some ⟨w.heap.size,0,none⟩)→s' 3=v3→s' 4=v4→s' 5=v5→w'.heap[w.heap.size]?=some (.cells #[.slice A n c] 24 (0,0))→RdRes t w (.returned (.tuple #[.agg #[.slice A n c],v3,v4,v5])) w'→Rt ⟨T',[]⟩ w':=by
  intro T' s' w' n c A v3 v4 v5 hF' h2 h3 h4 h5 hr hR
  rw [hRt]
  exact rsRet T' s' w' _ n c A v3 v4 v5 hF' h2 h3 h4 h5 hr _ hR
 clear hRt
 rw [show (rsC [])=(.seq (rsC [0]) (.seq (rsC [1,0]) (.seq (rsC [1,1,0]) (.seq (rsC [1,1,1,0]) (.seq (rsC [1,1,1,1,0]) (.seq (rsC [1,1,1,1,1,0]) (.seq (rsC [1,1,1,1,1,1,0]) (.seq (rsC [1,1,1,1,1,1,1,0]) (.seq (.seq (rsC [1,1,1,1,1,1,1,1,0,0]) (.cond (.tmp 253) (rsC [1,1,1,1,1,1,1,1,0,1,2]) .skip)) (.seq (rsC [1,1,1,1,1,1,1,1,1,0]) (.seq (.seq (rsC [1,1,1,1,1,1,1,1,1,1,0,0]) (.cond (.tmp 259) (rsC [1,1,1,1,1,1,1,1,1,1,0,1,2]) .skip)) (.seq (rsC [1,1,1,1,1,1,1,1,1,1,1,0]) (.seq (rsC [1,1,1,1,1,1,1,1,1,1,1,1,0]) (.seq (rsC [1,1,1,1,1,1,1,1,1,1,1,1,1,0]) (.seq (.seq (rsC [1,1,1,1,1,1,1,1,1,1,1,1,1,1,0,0]) (.cond (.tmp 297) (rsC [1,1,1,1,1,1,1,1,1,1,1,1,1,1,0,1,2]) .skip)) (.seq (rsC [1,1,1,1,1,1,1,1,1,1,1,1,1,1,1,0]) .ret)))))))))))))))) from rfl]
 obtain ⟨W1,hW1⟩:∃ W1,w.alloc (.cells #[.slice none 0 0] 24)=W1:=⟨_,rfl⟩
 have hb1:Below w.heap.size w W1:=by rw [←hW1];exact (Below.refl _ _).alloc (Nat.le_refl _) _
 have hc1:W1.heap[w.heap.size]?=some (.cells #[.slice none 0 0] 24 (0,0)):=by rw [←hW1];exact heap_alloc_new ..
 obtain ⟨W2,hW2⟩:∃ W2,W1.alloc (.cells #[.slice none 0 0] 24)=W2:=⟨_,rfl⟩
 have hb2:Below W1.heap.size W1 W2:=by rw [←hW2];exact (Below.refl _ _).alloc (Nat.le_refl _) _
 have hc2:W2.heap[W1.heap.size]?=some (.cells #[.slice none 0 0] 24 (0,0)):=by rw [←hW2];exact heap_alloc_new ..
 have hl1:=(Array.getElem?_eq_some_iff.1 hc1).1
 have hl2:=(Array.getElem?_eq_some_iff.1 hc2).1
 refine wp_seq (rsL0 T s w hF _ _ fun T hF=>?_)
 rw [hW1]
 refine wp_seq (rsL1 T _ W1 hF _ _ fun T hF=>?_)
 rw [hW2]
 refine wp_seq (rsL2 T _ W2 hF _ _ fun T hF=>?_)
 refine wp_seq (rsL3 T _ W2 hF _ _ fun T hF=>?_)
 refine wp_seq (rsL4 T _ W2 hF _ _ fun T hF=>?_)
 refine wp_seq (rsL5 T _ t (fun v w'=>(∃ g cp,v=.slice (some ⟨g,0,none⟩) (piecesC 10 t).length cp∧WdA w' g (piecesC 10 t))∧Below W2.heap.size W2 w') W2 hF (by simp [upG,h0]) (cut_c 10 t W2 ht) _ _ fun T v W hF hX=>?_)
 obtain ⟨⟨gl,cl,rfl,HL⟩,hb3⟩:=hX
 have hle:=piecesC_le 10 t
 have hpos:=piecesC_pos 10 t
 refine wp_seq (rsL6 T _ (some ⟨gl,0,none⟩) (piecesC 10 t).length ((piecesC 10 t).length-1) cl W hF (upG_at _ _ _) (by omega) (by omega) _ _ fun T hF=>?_)
 have hb02:Below w.heap.size w W2:=onB hb1 hb2
 have hb03:Below w.heap.size w W:=onB hb02 hb3
 have hl3:=hb3.size
 have hq3:W.heap[W1.heap.size]?=some (.cells #[.slice none 0 0] 24 (0,0)):=(hb3.block _ hl2).trans hc2
 have hr3:W.heap[w.heap.size]?=some (.cells #[.slice none 0 0] 24 (0,0)):=(hb3.block _ (by omega)).trans ((hb2.block _ hl1).trans hc1)
 have hglq:gl≠W1.heap.size:=fun e=>by
  have k1:=HL.2 0 hpos
  rw [e] at k1
  have k2:W.cell? ⟨W1.heap.size,0,none⟩=some (.slice none 0 0):=(Lib.cell_of_heap hq3 0).trans rfl
  rw [k2] at k1
  cases k1
 obtain ⟨r,hr⟩:∃ r,w.heap.size=r:=⟨_,rfl⟩
 obtain ⟨q,hq⟩:∃ q,W1.heap.size=q:=⟨_,rfl⟩
 obtain ⟨B,hB⟩:∃ B,W.heap.size=B:=⟨_,rfl⟩
 have hM0:RsM q B rd0S (fun _=>none) (fun _=>0) (.slice none 0 0) (.slice none 0 0) (.slice none 0 0) W:=⟨by omega,by omega,by rw [←hq];exact hq3,DmV.nil _ _ _ _,World.ownsRow_nil _ _ _ _,World.ownsRow_nil _ _ _ _⟩
 rw [hr] at hF fin hr3
 rw [hq] at hF hglq
 have low:∀ w',Kept B (fun b=>b=q∨b=r) W w'→Below w.heap.size w w':=fun w' hk=>kept_two hb03 hk (by omega) (by omega) (by omega)
 have hHL:gl<B:=by rw [←hB];exact HL.1
 generalize hs5:upG (upG _ 10 _) 11 _=s5 at hF
 have e2:s5 2=.pointer (some ⟨r,0,none⟩):=by rw [←hs5];simp [upG]
 have e6:s5 6=.pointer (some ⟨q,0,none⟩):=by rw [←hs5];simp [upG]
 have e7:s5 7=.slice none 0 0:=by rw [←hs5];simp [upG]
 have e8:s5 8=.slice none 0 0:=by rw [←hs5];simp [upG]
 have e9:s5 9=.int .i64 (0:Nat):=by rw [←hs5];simp [upG]
 have e10:s5 10=.slice (some ⟨gl,0,none⟩) (piecesC 10 t).length cl:=by rw [←hs5];simp [upG]
 have e11:s5 11=.int .i64 (((piecesC 10 t).length-1:Nat):Int):=by rw [←hs5];simp [upG]
 clear hs5
 refine wp_seq (rsLoop1 T s5 W hF hM0 HL hHL hglq e2 e6 e7 e8 e9 e10 e11 ht hr3 (by omega) (by omega) _ Rt ?_ ?_)
 rotate_left
 ·intro k hk hok hbad T' s' w' hF' h2 h3 h4 h5 hr' hK
  have hrd:rdBad (piecesC 10 t)=some k:=rdEnd_hit _ _ 0 k (Nat.zero_le _) (by omega) (fun j _ hj=>hok j hj) hbad
  exact fin T' s' w' 0 0 none _ _ _ hF' h2 h3 h4 h5 hr' (rdRes_err (by unfold psE;rw [hrd]) (by unfold psK;rw [hrd]) (by decide) (low _ hK))
 intro hok T s6 w6 A C vd va vn hF hA6 h67 h68 h69 hM6 hK6
 have hthr:=rdEnd_through (piecesC 10 t) ((piecesC 10 t).length-1) 0 (fun j _ hj=>hok j (by omega))
 rw [Nat.zero_add] at hthr
 have hr6:w6.heap[r]?=some (.cells #[.slice none 0 0] 24 (0,0)):=(hK6.block r (by omega) (by omega)).trans hr3
 have k2:s6 2=.pointer (some ⟨r,0,none⟩):=(hA6 2 (by decide)).trans e2
 have k6:s6 6=.pointer (some ⟨q,0,none⟩):=(hA6 6 (by decide)).trans e6
 have hK6':Kept B (fun b=>b=q∨b=r) W w6:=hK6.wide fun _ h=>Or.inl h
 refine wp_seq (wp_seq (rsL54 T s6 gl (piecesC 10 t).length cl ((piecesC 10 t).length-1) (wdB (piecesC 10 t) ((piecesC 10 t).length-1)) w6 hF ((hA6 10 (by decide)).trans e10) ((hA6 11 (by decide)).trans e11) (by omega) ((World.cell?_of_block (a:=⟨gl,_,none⟩) (hK6.block gl hHL hglq)).trans (HL.2 _ (by omega))) _ _ fun T hF he=>?_))
 rw [empty_l] at he
 have setr:∀ {w'},Kept B (fun b=>b=q∨b=r) W w'→Kept B (fun b=>b=q∨b=r) W (w'.setCell ⟨r,0,none⟩ (.slice none 0 0)):=fun hk=>⟨hk.os,hk.tape,hk.output,by simpa using hk.size,fun i hi hx=>(setCell_off _ _ _ _ _ fun e=>hx (Or.inr e)).trans (hk.block i hi hx)⟩
 by_cases hend:(wdB (piecesC 10 t) ((piecesC 10 t).length-1)).size=0
 rotate_left
 ·rw [decide_eq_false hend] at he
  rw [if_neg hend] at hthr
  have hrd:rdBad (piecesC 10 t)=some ((piecesC 10 t).length-1):=hthr
  refine wp_cond_true he (wp_qr (rsR55 T s6 r _ (.int .i64 (((piecesC 10 t).length-1:Nat):Int)) w6 hF k2 ((hA6 11 (by decide)).trans e11) hr6 _ Rt fun T hF=>fin T _ _ 0 0 none _ _ _ hF (by simp [upG,k2]) (by simp [upG] <;> rfl) (by simp [upG] <;> rfl) (by simp [upG] <;> rfl) (box1_set hr6) (rdRes_err (k:=(piecesC 10 t).length-1) (by unfold psE;rw [hrd]) (by unfold psK;rw [hrd]) (by decide) (low _ (setr hK6')))) fun _ _ h=>h)
 rw [decide_eq_true hend] at he
 rw [if_pos hend] at hthr
 have hrd:rdBad (piecesC 10 t)=none:=hthr
 have hPE:psE t=psE2 t:=by unfold psE;rw [hrd]
 have hPK:psK t=psK2 t:=by unfold psK;rw [hrd]
 refine wp_cond_false he (wp_skip ?_)
 obtain ⟨A0,cap,hvd,hD6⟩:=hM6.dm.toV
 subst hvd
 have hbox6:=hM6.box
 refine wp_seq (rsL56 T s6 q (.slice A0 (psS t).dims.length cap) (fun v w'=>v=.int .i64 (ruErr (psD t) (psN t)).2.2∧Below w6.heap.size w6 w') w6 hF k6 ((Lib.cell_of_heap hbox6 0).trans rfl) ((sright_any A0 cap _ _ A C w6 hD6).mono fun _ _ ⟨he,hb⟩=>⟨_,he,rfl,hb⟩) _ _ fun T v w7 hF hX=>?_)
 obtain ⟨rfl,hb7⟩:=hX
 have hM7:=hM6.later hb7
 have hK7':Kept B (fun b=>b=q∨b=r) W w7:=hK6'.trans (kept_below hb7 hM6.size)
 have hr7:=(hb7.block r (by have:=hM6.size;omega)).trans hr6
 refine wp_seq (wp_seq (rsL57 T _ (ruErr (psD t) (psN t)).2.2 w7 hF (upG_at _ _ _) _ _ fun T hF he=>?_))
 by_cases hru:(ruErr (psD t) (psN t)).2.2=0
 rotate_left
 ·rw [decide_eq_false hru] at he
  refine wp_cond_true he (wp_qr (rsR58 T _ r _ (.int .i64 (ruErr (psD t) (psN t)).2.2) w7 hF (by simp [upG,k2]) (upG_at _ _ _) hr7 _ Rt fun T hF=>fin T _ _ 0 0 none _ _ _ hF (by simp [upG,k2]) (by simp [upG] <;> rfl) (by simp [upG] <;> rfl) (by simp [upG] <;> rfl) (box1_set hr7) (rdRes_err (k:=0) (by rw [hPE];unfold psE2;rw [if_pos hru]) (by rw [hPK];unfold psK2;rw [if_pos hru]) hru (low _ (setr hK7')))) fun _ _ h=>h)
 rw [decide_eq_true hru] at he
 refine wp_cond_false he (wp_skip ?_)
 refine wp_seq (rsL59 T _ w7 hF _ _ fun T hF=>?_)
 obtain ⟨z1,z2,z3⟩:=psS_bounds t
 have hfi:0<(psS t).pl.length→(psS t).first≤1048577:=fun hp=>by
  have h:=rdTo_first (L:=piecesC 10 t) ((piecesC 10 t).length-1) hok
  have e:rdTo (piecesC 10 t) ((piecesC 10 t).length-1)=psS t:=rfl
  rw [e] at h
  omega
 have hnl:(psS t).num.length=(psS t).pl.length:=(rdTo_dims (piecesC 10 t) ((piecesC 10 t).length-1)).2.2
 refine wp_seq (rsLoop2 (r:=r) T _ w7 va vn hF hM7.at_ hM7.num hnl hM7.box (hD6.later hb7) (ru_allX hru) (by simp [upG,k2]) (by simp [upG,k6]) (by simp [upG,h67]) (by simp [upG,h68]) (by simp [upG,h69]) (upG_at _ _ _) (by omega) hfi (fun p hp=>Nat.le_trans (z3 p hp) ht) hr7 _ Rt ?_ ?_)
 rotate_left
 ·intro k hk hp0 T' s' w' hF' h2 h3 h4 h5 hr' hK
  have hK':Kept B (fun b=>b=q∨b=r) W w':=⟨hK.os.trans hK7'.os,hK.tape.trans hK7'.tape,hK.output.trans hK7'.output,Nat.le_trans hK7'.size hK.size,fun i hi hx=>(hK.block i (Nat.lt_of_lt_of_le hi hM7.size) fun e=>hx (Or.inr e)).trans (hK7'.block i hi hx)⟩
  have hk':ebad (psD t) (psN t) (psS t)=(k:Int):=hk
  exact fin T' s' w' 0 0 none _ _ _ hF' h2 h3 h4 h5 hr' (rdRes_err (by rw [hPE];unfold psE2;rw [if_neg (by simpa using hru),hk',if_pos (by omega),Int.toNat_natCast];rfl) (by rw [hPK];unfold psK2;rw [if_neg (by simpa using hru),hk',if_pos (by omega),Int.toNat_natCast]) hp0 (low _ hK'))
 intro hno T s8 w8 xs hF hA8 hO8 hxe hP8 hb8
 have hno':ebad (psD t) (psN t) (psS t) = -1:=hno
 obtain ⟨AE,ce,hv8,hE8⟩:=ens_row hO8 hP8
 have hM8:=hM7.later hb8
 have hK8':Kept B (fun b=>b=q∨b=r) W w8:=hK7'.trans (kept_below hb8 hM7.size)
 have hr8:=(hb8.block r (by have:=hM7.size;omega)).trans hr7
 have hD8:=(hD6.later hb7).later hb8
 have m2:s8 2=.pointer (some ⟨r,0,none⟩):=(hA8 2 (by decide)).trans (by simp [upG,k2])
 have m6:s8 6=.pointer (some ⟨q,0,none⟩):=(hA8 6 (by decide)).trans (by simp [upG,k6])
 refine wp_seq (rsL67 T s8 q (.slice A0 (psS t).dims.length cap) (.slice AE xs.length ce) (fun v w'=>v=.int .i64 (entsErr (psD t) (psN t) (psL t))∧Below w8.heap.size w8 w') w8 hF m6 hv8 ((Lib.cell_of_heap hM8.box 0).trans rfl) ((rentries_any A0 cap _ _ A C AE ce xs w8 hD8 hE8).mono fun _ _ ⟨he,hb⟩=>⟨_,he,by rw [hxe];rfl,hb⟩) _ _ fun T v w9 hF hX=>?_)
 obtain ⟨rfl,hb9⟩:=hX
 have hM9:=hM8.later hb9
 have hK9':Kept B (fun b=>b=q∨b=r) W w9:=hK8'.trans (kept_below hb9 hM8.size)
 have hr9:=(hb9.block r (by have:=hM8.size;omega)).trans hr8
 have hPE2:psE2 t=entsErr (psD t) (psN t) (psL t):=by unfold psE2;rw [if_neg (by simpa using hru),if_neg (by rw [hno'];decide)]
 have hPK2:psK2 t=0:=by unfold psK2;rw [if_neg (by simpa using hru),if_neg (by rw [hno'];decide)]
 refine wp_seq (wp_seq (rsL68 T _ (entsErr (psD t) (psN t) (psL t)) w9 hF (upG_at _ _ _) _ _ fun T hF he=>?_))
 by_cases hen:entsErr (psD t) (psN t) (psL t)=0
 rotate_left
 ·rw [decide_eq_false hen] at he
  refine wp_cond_true he (wp_qr (rsR69 T _ r _ (.int .i64 (entsErr (psD t) (psN t) (psL t))) w9 hF (by simp [upG,m2]) (upG_at _ _ _) hr9 _ Rt fun T hF=>fin T _ _ 0 0 none _ _ _ hF (by simp [upG,m2]) (by simp [upG] <;> rfl) (by simp [upG] <;> rfl) (by simp [upG] <;> rfl) (box1_set hr9) (rdRes_err (k:=0) (by rw [hPE,hPE2]) (by rw [hPK,hPK2]) hen (low _ (setr hK9')))) fun _ _ h=>h)
 rw [decide_eq_true hen] at he
 refine wp_cond_false he (wp_skip ?_)
 refine wp_seq (rsL70 T _ q r (psS t).dims.length cap A0 _ (.slice AE xs.length ce) w9 hF (by simp [upG,m2]) (by simp [upG,m6]) (by simp [upG,hv8]) ((Lib.cell_of_heap hM9.box 0).trans rfl) hr9 _ _ fun T hF=>wp_ret ?_)
 refine fin T _ _ (psS t).dims.length cap A0 _ _ _ hF (by simp [upG,m2]) (by simp [upG] <;> rfl) (by simp [upG] <;> rfl) (by simp [upG] <;> rfl) (box1_set hr9) ⟨fun h=>absurd (by rw [hPE,hPE2,hen]) h,fun _=>?_,low _ ⟨hK9'.os,hK9'.tape,hK9'.output,by simpa using hK9'.size,fun i hi hx=>(setCell_off _ _ _ _ _ fun e=>hx (Or.inr e)).trans (hK9'.block i hi hx)⟩⟩
 have hM10:DmV (w9.setCell ⟨r,0,none⟩ (.slice A0 (psS t).dims.length cap)) B (.slice A0 (psS t).dims.length cap) A C (psS t).dims:=hM9.dm.keep fun b _ _ _ hb _ _=>setCell_off _ _ _ _ _ (by omega)
 obtain ⟨A1,cap1,hv1,hD10⟩:=hM10.toV
 cases hv1
 have hO9:=own_setc (g:=r) (j:=0) (x:=.slice A0 (psS t).dims.length cap) (own_later hO8 hb9) fun e=>by have:=(hO8.lt r e).1;have:=hM7.size;omega
 obtain ⟨AE2,ce2,hv2,hE10⟩:=ens_row hO9 fun x hx=>plty_set ((hP8 x hx).later hb9) hr9 (by decide)
 rw [hv8] at hv2
 cases hv2
 exact ⟨A0,cap,A,C,xs,AE,ce,rfl,hD10,hE10,hxe⟩
end Go.Proofs.YtinebmjpdkjooaaGreatDoor
