/-
  tallyref2.Change: Remove's entries.
-/
import Derived.Test.YtfldgghobddgkaaGreatDoorJDBO
namespace Go.Proofs.YtfldgghobddgkaaGreatDoor
open Go Go.ChangeShapes Go.WideShapes Go.ChangeAt Go.RowKit
set_option maxRecDepth 1000000
set_option maxHeartbeats 64000000
theorem ent_row_stays {w w':World} {base:Nat} {v:Value} {n:Nat} {zs:List Value} {A:Option Addr} {c:Nat} {L:List Int} (h:PlTy w A c L) (hown:w.ownsRow base 51 2 v n zs) (hG:w.grownBy w' v.ownBlock):PlTy w' A c L:=by
 obtain ⟨h1,h2 | ⟨b,o,cs,fr',h2,h3,h4⟩⟩:=h
 ·exact ⟨h1,Or.inl h2⟩
 ·have hne:=own_ne hown h3 ent_ne_int
  have hb:w'.heap[b]?=w.heap[b]?:=hG.block b (Array.getElem?_eq_some_iff.1 h3).1 (Ne.symm hne)
  exact ⟨h1,Or.inr ⟨b,o,cs,fr',h2,hb.trans h3,fun j hj=>(World.cell?_of_block (a:=⟨b,o+j,none⟩) hb).trans (h4 j hj)⟩⟩
theorem ens_ownT {w:World} {base:Nat} {v:Value} {ys:List EnL} (h:w.ownsRow base 51 2 v ys.length (cellsE ys)) (hp:∀ y∈ys,PlTy w y.A y.c y.e.pl):∃ A c,v=.slice A ys.length c∧EnsV w A c ys:=by
 rcases h.2 with ⟨rfl,h0⟩ | ⟨g,cap,cur,rfl,hb,hg,hc,hm,_,_⟩
 ·exact ⟨none,0,by rw [h0],by omega,by decide,Or.inl (List.eq_nil_of_length_eq_zero h0)⟩
 ·refine ⟨_,cap,rfl,hc,by unfold maxLen at hm;omega,Or.inr ⟨g,0,rfl,(Array.getElem?_eq_some_iff.1 hg).1,fun j u hj=>?_,fun y hy=>(hp y hy).pl⟩⟩
  have:=h.cells (g:=g) rfl j u hj
  rw [plain_add] at this
  exact this
theorem rem_at {l:List En} {k:Nat} {i:Int} {j:Nat} (hj:j<l.length) (h:(l.getD j noEn).pl.getD k 0=i):remL (l.take (j+1)) k i=remL (l.take j) k i:=by
 have e:l.getD j noEn=l[j]:=by rw [List.getD_eq_getElem?_getD,List.getElem?_eq_getElem hj];rfl
 unfold remL keptL
 rw [List.take_succ_eq_append_getElem hj,List.filter_append,←e]
 rw [show List.filter (fun e => !decide (e.pl.getD k 0=i)) [l.getD j noEn]=[] by rw [List.filter_cons_of_neg (by rw [decide_eq_true h];simp),List.filter_nil],List.append_nil]
theorem rem_in {l:List En} {k:Nat} {i:Int} {j:Nat} (hj:j<l.length) (h : ¬ (l.getD j noEn).pl.getD k 0=i):remL (l.take (j+1)) k i=remL (l.take j) k i ++ [movE k i (l.getD j noEn)]:=by
 have e:l.getD j noEn=l[j]:=by rw [List.getD_eq_getElem?_getD,List.getElem?_eq_getElem hj];rfl
 unfold remL keptL
 rw [List.take_succ_eq_append_getElem hj,List.filter_append,←e]
 rw [show List.filter (fun e => !decide (e.pl.getD k 0=i)) [l.getD j noEn]=[l.getD j noEn] by rw [List.filter_cons_of_pos (by rw [decide_eq_false h];rfl),List.filter_nil],List.map_append];rfl
theorem lE_getD (xs:List EnL) (j:Nat):(lE xs).getD j noEn=(xs.getD j noL).e:=by
 unfold lE
 rw [List.getD_eq_getElem?_getD,List.getD_eq_getElem?_getD,List.getElem?_map]
 cases xs[j]? <;> rfl
def EsI (w0:World) (k:Nat) (i:Int) (l:List En) (j:Nat) (s':Nat→Value) (w':World):Prop :=
 Below w0.heap.size w0 w'∧∃ Av Cv ys,s' 11=.slice Av (ys:List EnL).length Cv∧w'.ownsRow w0.heap.size 51 2 (.slice Av ys.length Cv) ys.length (cellsE ys)∧lE ys=remL (l.take j) k i∧(∀ y∈ys,PlTy w' y.A y.c y.e.pl)∧ys.length≤j
theorem EsI.later {w0 w w':World} {k:Nat} {i:Int} {l:List En} {j:Nat} {s s':Nat→Value} (h:EsI w0 k i l j s w) (hs:s' 11=s 11) (hb:Below w.heap.size w w'):EsI w0 k i l j s' w':=by
 obtain ⟨h1,Av,Cv,ys,h2,h3,h4,h5,h6⟩:=h
 exact ⟨onB h1 hb,Av,Cv,ys,hs.trans h2,own_later h3 hb,h4,fun y hy=>(h5 y hy).later hb,h6⟩
theorem ctEs (T:Array Value) (s:Nat→Value) (w:World) (p k i ce:Nat) (AE:Option Addr) (xs:List EnL) (wh mb tg sg:Int) (nm:ByteArray) (hF:ctF T s) (h1:s 1=.slice AE xs.length ce) (h5:s 5=.pointer (some ⟨p+1,0,none⟩)) (h11:s 11=.slice none 0 0) (h12:s 12=.int .i64 (i:Nat))
  (hEn:EnsV w AE ce xs) (hx:xs.length≤3000) (hsh:∀ e∈lE xs,k<e.pl.length∧e.pl.length≤4∧-1≤e.pl.getD k 0∧e.pl.getD k 0≤1000)
  (hc:w.heap[p+1]?=some (.cells #[.int .i64 wh,.int .i64 (k:Nat),.int .i64 mb,.string nm,.int .i64 tg,.int .i64 sg] 27 (0,0))) (J:Act→World→Prop) (Q:Exit→Act→World→Prop)
  (hJ:∀ T' s' w' Av Cv ys,ctF T' s'→Ag [11,16,17] s s'→s' 11=.slice Av (ys:List EnL).length Cv→lE ys=remL (lE xs) k i→EnsV w' Av Cv ys→Below w.heap.size w w'→J ⟨T',[]⟩ w'):Code.wp Tryz.prog (ctC [1,1,1,1,1,1,1,1,1,0,1,3,1,5,1,2,1,1,1,1,1,0]) (Exit.then J Q) ⟨T,[]⟩ w:=by
 rw [show (ctC [1,1,1,1,1,1,1,1,1,0,1,3,1,5,1,2,1,1,1,1,1,0])=(.seq (ctC [1,1,1,1,1,1,1,1,1,0,1,3,1,5,1,2,1,1,1,1,1,0,0]) (.block 3 (.loop (.seq (.seq (ctC [1,1,1,1,1,1,1,1,1,0,1,3,1,5,1,2,1,1,1,1,1,0,1,3,4,0,0]) (.cond (.tmp 188) .skip (.exit 3))) (.seq (.block 4 (.seq (ctC [1,1,1,1,1,1,1,1,1,0,1,3,1,5,1,2,1,1,1,1,1,0,1,3,4,1,0,3,0]) (.seq (.seq (ctC [1,1,1,1,1,1,1,1,1,0,1,3,1,5,1,2,1,1,1,1,1,0,1,3,4,1,0,3,1,0,0]) (.cond (.tmp 202) (.exit 4) .skip)) (.seq (.seq (ctC [1,1,1,1,1,1,1,1,1,0,1,3,1,5,1,2,1,1,1,1,1,0,1,3,4,1,0,3,1,1,0,0]) (.cond (.tmp 205) (ctC [1,1,1,1,1,1,1,1,1,0,1,3,1,5,1,2,1,1,1,1,1,0,1,3,4,1,0,3,1,1,0,1,2]) .skip)) (ctC [1,1,1,1,1,1,1,1,1,0,1,3,1,5,1,2,1,1,1,1,1,0,1,3,4,1,0,3,1,1,1]))))) (ctC [1,1,1,1,1,1,1,1,1,0,1,3,1,5,1,2,1,1,1,1,1,0,1,3,4,1,1])))))) from rfl]
 obtain ⟨m,hm⟩:∃ m,xs.length=m:=⟨_,rfl⟩
 rw [hm] at h1 hx
 have hpw:=(Array.getElem?_eq_some_iff.1 hc).1
 refine wp_seq (ctL32 T s w hF _ _ fun T2 hF2=>?_)
 refine for_wpc m (fun j=>decide (j<m)) (by simp)
  (fun j s' w'=>Ag [11,16,17] s s'∧s' 16=.int .i64 (j:Nat)∧EsI w k i (lE xs) j s' w')
  (fun j s' w'=>Ag [11,16,17] s s'∧s' 16=.int .i64 (j:Nat)∧EsI w k i (lE xs) (j+1) s' w')
  ?_ ?_ ?_ hF2 ⟨(Ag.refl _ _).up (by decide),upG_at _ _ _,Below.refl _ _,none,0,[],by rw [upG_off _ _ (by decide),h11];rfl,World.ownsRow_nil _ _ _ _,rfl,fun y hy=>(by cases hy),Nat.le_refl _⟩ ?_
 ·rintro j T s' w' hj hF ⟨hA,ha,-⟩ K Q hKK
  exact ctL33 T s' j m ce AE w' hF ((hA 1 (by decide)).trans h1) ha _ _ hKK
 ·rintro j T s' w' hj-hF ⟨hA,ha,hI⟩ K Q hex hKK
  have hjx:j<xs.length:=by omega
  have hjl:j<(lE xs).length:=by rw [lE_len];exact hjx
  obtain ⟨hce,-,h0 | ⟨b,o,rfl,hE⟩⟩:=hEn.later hI.1
  ·rw [h0] at hjx;simp at hjx
  obtain ⟨c0,c1⟩:=hE.at hjx
  have hpl:=hE.pl hjx
  obtain ⟨q1,q2,q3,q4⟩:=hsh _ (List.mem_map.2 ⟨_,enl_mem hjx,rfl⟩)
  have hmv:(lE xs).getD j noEn=(xs.getD j noL).e:=lE_getD xs j
  have hpl':=hpl
  obtain ⟨hpc,h0 | ⟨pb,po,hpA,hpb,hpv⟩⟩:=hpl'
  ·rw [h0] at q1;simp at q1
  have hc':w'.heap[p+1]?=_:=(hI.1.block _ hpw).trans hc
  have hv:=hpv k q1
  obtain ⟨x,hxe⟩:∃ x,(xs.getD j noL).e.pl.getD k 0=x:=⟨_,rfl⟩
  rw [hxe] at hv q3 q4
  rw [hm] at hce
  have c0':=c0
  rw [hpA] at c0'
  refine wp_seq (ctL35 T s' p b o m ce j k pb po _ _ x w' hF ((hA 1 (by decide)).trans h1) ((hA 5 (by decide)).trans h5) ha ((Lib.cell_of_heap hc' 1).trans rfl) (by omega) hce c0' q1 hpc hv _ _ fun T2 w2 hF2 hb2=>?_)
  have hA2:Ag [11,16,17] s (upG s' 17 (.int .i64 x)):=hA.up (by decide)
  have hI2:EsI w k i (lE xs) j (upG s' 17 (.int .i64 x)) w2:=hI.later (upG_off _ _ (by decide)) hb2
  have ha2:upG s' 17 (.int .i64 x) 16=.int .i64 (j:Nat):=by rw [upG_off _ _ (by decide)];exact ha
  refine wp_seq (wp_seq (ctL36 T2 _ x i w2 hF2 ((hA2 12 (by decide)).trans h12) (upG_at _ _ _) _ _ fun T3 hF3 he=>?_))
  by_cases hxi:x=(i:Int)
  ·rw [decide_eq_true hxi] at he
   refine wp_cond_true he (wp_exit (hex _ _ (hKK T3 _ w2 hF3 ⟨hA2,ha2,?_⟩)))
   obtain ⟨g1,Av,Cv,ys,g2,g3,g4,g5,g6⟩:=hI2
   exact ⟨g1,Av,Cv,ys,g2,g3,by rw [rem_at hjl (by rw [hmv,hxe,hxi])];exact g4,g5,by omega⟩
  rw [decide_eq_false hxi] at he
  refine wp_cond_false he (wp_skip ?_)
  have hno:remL ((lE xs).take (j+1)) k i=remL ((lE xs).take j) k i ++ [movE k i (xs.getD j noL).e]:=by rw [rem_in hjl (by rw [hmv,hxe];exact hxi),hmv]
  have hmE:movE k i (xs.getD j noL).e=⟨(xs.getD j noL).e.pl.set k (wo i x),(xs.getD j noL).e.n⟩:=by unfold movE;rw [hxe]
  have rest:∀ T4 s4,ctF T4 s4→Ag [11,16,17] s s4→s4 16=.int .i64 (j:Nat)→s4 17=.int .i64 (wo i x)→EsI w k i (lE xs) j s4 w2→Code.wp Tryz.prog (ctC [1,1,1,1,1,1,1,1,1,0,1,3,1,5,1,2,1,1,1,1,1,0,1,3,4,1,0,3,1,1,1]) (Exit.then K Q) ⟨T4,[]⟩ w2:=fun T4 s4 hF4 hA4 h416 h417 hI4=>by
   obtain ⟨g1,Av,Cv,ys,g2,g3,g4,g5,g6⟩:=hI4
   have hE2:=hE.later hb2
   obtain ⟨d0,d1⟩:=hE2.at hjx
   have hc2:w2.heap[p+1]?=_:=(g1.block _ hpw).trans hc
   have hbw:b<w.heap.size:=by
    rcases hEn.2.2 with h0 | ⟨b',o',e,hE0⟩
    ·rw [h0] at hjx;simp at hjx
    ·simp only [Option.some.injEq,Addr.mk.injEq,and_true] at e
     rw [e.1];exact hE0.1
   have hno1:some (p+1)≠(Value.slice Av ys.length Cv).ownBlock:=fun e=>by have:=(g3.lt _ e.symm).1;omega
   have hno2:some b≠(Value.slice Av ys.length Cv).ownBlock:=fun e=>by have:=(g3.lt _ e.symm).1;omega
   refine ctL39 T4 s4 p w.heap.size b o m ce j k (xs.getD j noL).e.pl.length (xs.getD j noL).c ys.length Cv (xs.getD j noL).A Av (xs.getD j noL).e.n (wo i x) (cellsE ys) (fun A' c' w'=>PlTy w' A' c' ((xs.getD j noL).e.pl.set k (wo i x))) w2 hF4 ((hA4 1 (by decide)).trans h1) ((hA4 5 (by decide)).trans h5) g2 h416 h417 ((Lib.cell_of_heap hc2 1).trans rfl) (by omega) hce d0 d1 g3 (by omega) g1.size hno1 hno2 (fun w1 hb1=>?_) _ _ fun T5 w5 wa A' c' g' c2' hF5 hP5 hba ho5 hgr=>?_
   ·refine (rwith_own (xs.getD j noL).A (xs.getD j noL).c (xs.getD j noL).e.pl k (wo i x) w1 q1 q2 ((hE2.pl hjx).later hb1)).mono ?_
    rintro e w' ⟨⟨g,c',rfl,⟨-,cur,hg⟩,hp⟩,hb⟩
    refine ⟨⟨_,c',rfl,hp.1,?_⟩,hb⟩
    rcases hp.2 with h | ⟨b',o',e',-,hcl⟩
    ·exact Or.inl h
    ·simp only [Option.some.injEq,Addr.mk.injEq,and_true] at e'
     obtain ⟨rfl,rfl⟩:=e'
     exact Or.inr ⟨g,0,cur,_,rfl,hg,hcl⟩
   ·obtain ⟨wb,hbb,hgr⟩:=hgr
    have hab:=onB hba hbb
    have hob:=own_later g3 hab
    have hB5:Below w.heap.size w w5:=(onB g1 hab).grown hgr (onB g1 hab).size (fun j hj=>(hob.lt j hj).1)
    refine hKK T5 _ w5 hF5 ⟨hA4.up (by decide),by rw [upG_off _ _ (by decide)];exact h416,hB5,some ⟨g',0,none⟩,c2',ys ++ [⟨movE k i (xs.getD j noL).e,A',c'⟩],?_,?_,?_,?_,?_⟩
    ·rw [upG_at,List.length_append];rfl
    ·rw [cellsE_append,List.length_append]
     have e:cellsE [(⟨movE k i (xs.getD j noL).e,A',c'⟩:EnL)]=[.slice A' (xs.getD j noL).e.pl.length c',.int .i64 (xs.getD j noL).e.n]:=by
      rw [hmE];simp [cellsE]
     rw [e];exact ho5
    ·rw [hno,←g4];simp [lE]
    ·intro y hy
     rcases List.mem_append.1 hy with hy | hy
     ·exact ent_row_stays ((g5 y hy).later hab) hob hgr
     ·rw [List.mem_singleton] at hy
      subst hy
      rw [hmE]
      exact ent_row_stays (hP5.later hbb) hob hgr
    ·rw [List.length_append,List.length_singleton];omega
  refine wp_seq (wp_seq (ctL37 T3 _ x i w2 hF3 ((hA2 12 (by decide)).trans h12) (upG_at _ _ _) _ _ fun T4 hF4 he4=>?_))
  by_cases hix:(i:Int)<x
  ·rw [decide_eq_true hix] at he4
   refine wp_cond_true he4 (ctL38 T4 _ x w2 hF4 (upG_at _ _ _) q3 q4 _ _ fun T5 hF5=>?_)
   refine rest T5 _ hF5 (hA2.up (by decide)) (by rw [upG_off _ _ (by decide)];exact ha2) ?_ (hI2.later (upG_off _ _ (by decide)) (Below.refl _ _))
   rw [upG_at];unfold wo;rw [if_pos hix]
  ·rw [decide_eq_false hix] at he4
   refine wp_cond_false he4 (wp_skip (rest T4 _ hF4 hA2 ha2 ?_ hI2))
   rw [upG_at];unfold wo;rw [if_neg hix]
 ·rintro j T s' w' hj hF ⟨hA,ha,hI⟩ K Q hKK
  exact ctL34 T s' j w' hF ha (by omega) _ _ fun T' hF'=>hKK T' _ w' hF' ⟨hA.up (by decide),upG_at _ _ _,hI.later (upG_off _ _ (by decide)) (Below.refl _ _)⟩
 ·rintro j T3 s3 w3 hj hjf hF3 ⟨hA,ha,hB,Av,Cv,ys,g2,g3,g4,g5,g6⟩
  have hje:j=m:=by simp at hjf;omega
  subst hje
  obtain ⟨A',c',e,hV⟩:=ens_ownT g3 g5
  simp only [Value.slice.injEq] at e
  obtain ⟨rfl,-,rfl⟩:=e
  rw [List.take_of_length_le (by rw [lE_len];omega)] at g4
  exact hJ T3 s3 w3 _ _ ys hF3 hA g2 g4 hV hB
def foTo (M:Nat→Mem) (old nm:ByteArray) (k:Nat):Nat→Mem:=fun x=>⟨(M x).name,(M x).parent,(M x).sign,if x<k then refT old nm (M x).formula else (M x).formula⟩
def foE (M:Nat→Mem) (old nm:ByteArray) (k:Nat):Int:=if (List.range k).any (fun j=>decide (100<(refT old nm (M j).formula).size))=true then 4 else 0
theorem foTo_zero (M:Nat→Mem) (old nm:ByteArray):foTo M old nm 0=M:=by funext x;unfold foTo;rw [if_neg (Nat.not_lt_zero _)]
theorem foTo_one (M:Nat→Mem) (old nm:ByteArray) (k:Nat):foP (foTo M old nm k) k (refT old nm (foTo M old nm k k).formula)=foTo M old nm (k+1):=by
 funext x
 unfold foP foTo
 by_cases e:x=k
 ·subst e
  rw [if_pos rfl]
  simp only [if_neg (Nat.lt_irrefl _),if_pos (Nat.lt_succ_self _)]
 ·rw [if_neg e]
  by_cases hl:x<k
  ·simp only [if_pos hl,if_pos (Nat.lt_succ_of_lt hl)]
  ·simp only [if_neg hl,if_neg (show ¬ x<k+1 by omega)]
theorem foTo_at (M:Nat→Mem) (old nm:ByteArray) (k:Nat):(foTo M old nm k k).formula=(M k).formula:=by unfold foTo;simp only [if_neg (Nat.lt_irrefl _)]
theorem foE_one {M:Nat→Mem} {old nm:ByteArray} {k:Nat} (h:foE M old nm k=0):foE M old nm (k+1)=if 100<(refT old nm (M k).formula).size then 4 else 0:=by
 unfold foE at h ⊢
 have h0:(List.range k).any (fun j=>decide (100<(refT old nm (M j).formula).size))=false:=by
  cases hx:(List.range k).any (fun j=>decide (100<(refT old nm (M j).formula).size)) with
  | false=>rfl
  | true=>rw [hx,if_pos rfl] at h;cases h
 rw [List.range_succ,List.any_append,h0,Bool.false_or]
 simp only [List.any_cons,List.any_nil,Bool.or_false,decide_eq_true_eq]
theorem ctFos (T:Array Value) (s:Nat→Value) (w:World) (p q B g C n:Nat) (dnm:ByteArray) (sv:Int) (M:Nat→Mem) (old nm:ByteArray) (wh dm mb tg sg:Int) (hF:ctF T s) (h5:s 5=.pointer (some ⟨p+1,0,none⟩)) (h9:s 9=.int .i64 0) (h10:s 10=.pointer (some ⟨q,0,none⟩)) (h19:s 19=.string old)
  (h:CtD w B q (some ⟨g,0,none⟩) C ⟨dnm,sv,n,M⟩) (hn:n≤12) (hBs:B≤w.heap.size) (hpq:p+1<B) (hpq2:p+1≠q) (hc:w.heap[p+1]?=some (.cells #[.int .i64 wh,.int .i64 dm,.int .i64 mb,.string nm,.int .i64 tg,.int .i64 sg] 27 (0,0))) (hnm:nameErr nm=0) (hfo:∀ j,j<n→(M j).formula.size=0∨((M j).formula.size≤100∧prsE (M j).formula=0)) (J:Act→World→Prop) (Q:Exit→Act→World→Prop)
  (hJ:∀ k T' s' w',k≤n→¬ (k<n∧foE M old nm k=0)→ctF T' s'→Ag [9,20,21,22,23,24,25,26] s s'→s' 9=.int .i64 (foE M old nm k)→CtD w' B q (some ⟨g,0,none⟩) C ⟨dnm,sv,n,foTo M old nm k⟩→Kb B q w w'→J ⟨T',[]⟩ w'):Code.wp Tryz.prog (ctC [1,1,1,1,1,1,1,1,1,0,1,3,1,5,1,5,1,2,1,1,1,1,0]) (Exit.then J Q) ⟨T,[]⟩ w:=by
 rw [show (ctC [1,1,1,1,1,1,1,1,1,0,1,3,1,5,1,5,1,2,1,1,1,1,0])=(.seq (ctC [1,1,1,1,1,1,1,1,1,0,1,3,1,5,1,5,1,2,1,1,1,1,0,0]) (.block 5 (.loop (.seq (.seq (ctC [1,1,1,1,1,1,1,1,1,0,1,3,1,5,1,5,1,2,1,1,1,1,0,1,3,4,0,0]) (.cond (.tmp 266) .skip (.exit 5))) (.seq (.block 6 (ctC [1,1,1,1,1,1,1,1,1,0,1,3,1,5,1,5,1,2,1,1,1,1,0,1,3,4,1,0,3])) (ctC [1,1,1,1,1,1,1,1,1,0,1,3,1,5,1,5,1,2,1,1,1,1,0,1,3,4,1,1])))))) from rfl]
 refine wp_seq (ctL47 T s w hF _ _ fun T2 hF2=>?_)
 refine for_wpc n (fun k=>decide (k<n∧foE M old nm k=0)) (by simp)
  (fun k s' w'=>Ag [9,20,21,22,23,24,25,26] s s'∧s' 9=.int .i64 (foE M old nm k)∧s' 20=.int .i64 (k:Nat)∧CtD w' B q (some ⟨g,0,none⟩) C ⟨dnm,sv,n,foTo M old nm k⟩∧Kb B q w w')
  (fun k s' w'=>Ag [9,20,21,22,23,24,25,26] s s'∧s' 9=.int .i64 (foE M old nm (k+1))∧s' 20=.int .i64 (k:Nat)∧CtD w' B q (some ⟨g,0,none⟩) C ⟨dnm,sv,n,foTo M old nm (k+1)⟩∧Kb B q w w')
  ?_ ?_ ?_ hF2 ⟨(Ag.refl _ _).up (by decide),by rw [upG_off _ _ (by decide),h9];rfl,upG_at _ _ _,by rw [foTo_zero];exact h,Kept.refl _ _ _⟩ ?_
 ·rintro k T s' w' hk hF ⟨hA,ha,hb,hD,hK⟩ K Q hKK
  exact ctL48 T s' q k n C (some ⟨g,0,none⟩) (foE M old nm k) w' hF ha ((hA 10 (by decide)).trans h10) hb hD.c2 _ _ hKK
 ·rintro k T s' w' hk htb hF ⟨hA,ha,hb,hD,hK⟩ K Q hex hKK
  obtain ⟨-,hE0⟩:=of_decide_eq_true htb
  rw [hE0] at ha
  have hc':w'.heap[p+1]?=_:=(hK.block _ hpq hpq2).trans hc
  refine ctFo T s' w' p q B g C k ⟨dnm,sv,n,foTo M old nm k⟩ old nm wh dm mb tg sg hF ((hA 5 (by decide)).trans h5) ha ((hA 10 (by decide)).trans h10) ((hA 19 (by decide)).trans h19) hb hD hk (Nat.le_trans hBs hK.size) hc' hnm (by show (foTo M old nm k k).formula.size=0∨_;rw [foTo_at];exact hfo k hk) _ _ hex fun T3 s3 w3 hF3 hA3 h39 hD3 hK3=>hKK T3 s3 w3 hF3 ⟨hA.trans (hA3.wide (by decide)),?_,(hA3 20 (by decide)).trans hb,?_,hK.trans hK3⟩
  ·rw [h39,foE_one hE0]
   show _=Value.int .i64 (if 100<(refT old nm (M k).formula).size then 4 else 0)
   rw [show (({ name:=dnm,solve:=sv,n:=n,mem:=foTo M old nm k }:Dm).mem k).formula=(M k).formula from foTo_at M old nm k]
  ·rw [←foTo_one];exact hD3
 ·rintro k T s' w' hk hF ⟨hA,ha,hb,hD,hK⟩ K Q hKK
  exact ctL49 T s' k w' hF hb (by omega) _ _ fun T' hF'=>hKK T' _ w' hF' ⟨hA.up (by decide),by rw [upG_off _ _ (by decide)];exact ha,upG_at _ _ _,hD,hK⟩
 ·rintro k T3 s3 w3 hk hkf hF3 ⟨hA,ha,-,hD,hK⟩
  exact hJ k T3 s3 w3 hk (of_decide_eq_false hkf) hF3 hA ha hD hK
theorem ctL77 (T:Array Value) (s:Nat→Value) (p q n cap k m C:Nat) (A0 A:Option Addr) (dnm:ByteArray) (sv:Int) (X:Option Addr→Nat→World→Prop) (w:World) (hF:ctF T s) (h3:s 3=.pointer (some ⟨p,0,none⟩)) (h5:s 5=.pointer (some ⟨(p+1),0,none⟩)) (h10:s 10=.pointer (some ⟨q,0,none⟩)) (c0:w.cell? ⟨p,0,none⟩=some (.slice A0 n cap)) (c1:w.cell? ⟨p+1,1,none⟩=some (.int .i64 (k:Nat))) (d0:w.cell? ⟨q,0,none⟩=some (.string dnm)) (d1:w.cell? ⟨q,1,none⟩=some (.int .i64 sv)) (d2:w.cell? ⟨q,2,none⟩=some (.slice A m C)) (hcall:Calls Tryz.prog 19 #[.agg #[.slice A0 n cap],.int .i64 (k:Nat),.agg #[.string dnm,.int .i64 sv,.slice A m C]] w fun e w'=>(∃ A' c',e=.returned (.agg #[.slice A' n c'])∧X A' c' w')∧Below w.heap.size w w') (J:Act→World→Prop) (Q:Exit→Act→World→Prop)
  (hJ:∀ T' w1 A' c',ctF T' (upG s 27 (.pointer (some ⟨w1.heap.size,0,none⟩)))→X A' c' w1→Below w.heap.size w w1→J ⟨T',[]⟩ (w1.alloc (.cells #[.slice A' n c'] 24))):Code.wp Tryz.prog (ctC [1,1,1,1,1,1,1,1,1,1,1,0]) (Exit.then J Q) ⟨T,[]⟩ w:=by
 obtain ⟨xF,rfl⟩:=ct_open hF
 unfold ctL
 rw [h3,h5,h10]
 have HJ:=hid_of hJ
 have H3:=hid_of h3
 have H5:=hid_of h5
 have H10:=hid_of h10
 clear hJ hF h3 h5 h10
 conv=>arg 2;whnf
 go_wp2_with fail
 refine hcall.mono ?_
 rintro e w1 ⟨⟨A',c',rfl,hX⟩,hb⟩
 have HX:=hid_of hX
 have HB:=hid_of hb
 clear hcall hb hX
 go_wp2_with fail
 refine HJ.out _ w1 A' c' ⟨rfl,?_⟩ HX.out HB.out
 rw [←H3.out,←H5.out,←H10.out]
 rfl
theorem ctL78 (T:Array Value) (s:Nat→Value) (x n c:Nat) (A:Option Addr) (E:Int) (w:World) (hF:ctF T s) (h27:s 27=.pointer (some ⟨x,0,none⟩)) (cx:w.cell? ⟨x,0,none⟩=some (.slice A n c)) (hcall:Calls Tryz.prog 20 #[.agg #[.slice A n c]] w fun e w'=>e=.returned (.int .i64 E)∧Below w.heap.size w w') (J:Act→World→Prop) (Q:Exit→Act→World→Prop)
  (hJ:∀ T' w',ctF T' (upG s 9 (.int .i64 E))→Below w.heap.size w w'→J ⟨T',[]⟩ w'):Code.wp Tryz.prog (ctC [1,1,1,1,1,1,1,1,1,1,1,1,0]) (Exit.then J Q) ⟨T,[]⟩ w:=by
 obtain ⟨xF,rfl⟩:=ct_open hF
 unfold ctL
 rw [h27]
 have HJ:=hid_of hJ
 have H27:=hid_of h27
 clear hJ hF h27
 conv=>arg 2;whnf
 go_wp2_with fail
 refine hcall.mono ?_
 rintro e w1 ⟨rfl,hb⟩
 have HB:=hid_of hb
 clear hcall hb
 go_wp2_with fail
 refine HJ.out _ w1 ⟨rfl,?_⟩ HB.out
 rw [←H27.out]
 rfl
theorem ctR81 (T:Array Value) (s:Nat→Value) (q x n c:Nat) (A:Option Addr) (y v:Value) (w:World) (hF:ctF T s) (h6:s 6=.pointer (some ⟨q,0,none⟩)) (h11:s 11=v) (h27:s 27=.pointer (some ⟨x,0,none⟩)) (hq:w.heap[q]?=some (.cells #[y] 24 (0,0))) (cx:w.cell? ⟨x,0,none⟩=some (.slice A n c)) (J Rt:Act→World→Prop)
  (hJ:∀ T',ctF T' (upG (upG s 7 v) 8 (.int .i64 0))→Rt ⟨T',[]⟩ (w.setCell ⟨q,0,none⟩ (.slice A n c))):Code.wp Tryz.prog (ctC [1,1,1,1,1,1,1,1,1,1,1,1,1,1]) (Exit.then J (QR Rt)) ⟨T,[]⟩ w:=by
 obtain ⟨xF,rfl⟩:=ct_open hF
 unfold ctL
 rw [h6,h11,h27]
 have HJ:=hid_of hJ
 have H6:=hid_of h6
 have H11:=hid_of h11
 have H27:=hid_of h27
 clear hJ hF h6 h11 h27
 have a1:w.cell? ⟨q,0,none⟩=some y:=(Lib.cell_of_heap hq 0).trans rfl
 have a2:w.frozen? ⟨q,0,none⟩=false:=Lib.frozen_of_heap hq 0
 have a3:=(Array.getElem?_eq_some_iff.1 hq).1
 clear hq
 conv=>arg 2;whnf
 go_wp2_with fail
 show Rt _ _
 refine HJ.out _ ⟨rfl,?_⟩ 
 rw [←H6.out,←H11.out,←H27.out]
 rfl
end Go.Proofs.YtfldgghobddgkaaGreatDoor
namespace Go.Proofs.YtfldgghobddgkaaGreatDoor
open Go.ChangeShapes Go.WideShapes Go.ChangeAt Go.RowKit
set_option maxRecDepth 20000
theorem wr_drop {l:List En} {k:Nat} {m:Int} {i:Nat} (hi:i<l.length):(l.drop i).any (fun e=>decide (e.pl.getD k 0=m))=(decide ((l.getD i noEn).pl.getD k 0=m) || (l.drop (i+1)).any (fun e=>decide (e.pl.getD k 0=m))):=by
 have e:l.getD i noEn=l[i]:=by simp [List.getD,hi]
 rw [List.drop_eq_getElem_cons hi,List.any_cons,e]
set_option maxHeartbeats 2000000 in
theorem rwritten2_any (AE:Option Addr) (ce:Nat) (xs:List EnL) (k:Nat) (m:Int) (w:World) (hE:EnsV w AE ce xs) (hp:∀ j,j<xs.length→k<(xs.getD j noL).e.pl.length) :
  Calls Tryz.prog 11 #[.slice AE xs.length ce,.int .i64 (k:Nat),.int .i64 m] w fun e w'=>e=.returned (.bool (wrAt (lE xs) k m))∧Below w.heap.size w w':=by
 have HE:=hid_of hE
 have HP:=hid_of hp
 obtain ⟨n,hn⟩:∃ n,xs.length=n:=⟨_,rfl⟩
 have HL:=hid_of hn
 have hni:(n:Int)≤9223372036854775807:=by have:=hE.1;have:=hE.2.1;omega
 unfold wrAt
 rw [hn]
 clear hE hp hn
 go_enter Tryz.func11,Tryz.ntmps11
 go_wp2_with fail
 go_loopg [7] n (fun g s7 wr => ∃ (i:Nat),i≤n∧g=n-i∧s7=.int .i64 i∧Hid (((lE xs).drop i).any (fun e=>decide (e.pl.getD k 0=m))=(lE xs).any fun e=>decide (e.pl.getD k 0=m))∧Hid (Below w.heap.size w wr))
 case atStart=>exact ⟨0,Nat.zero_le _,rfl,rfl,rfl,Below.refl _ _⟩
 case round =>
  obtain ⟨i,hi,rfl,rfl,HF,HW⟩:=hrel
  by_cases hlt:i<n
  ·have hki:(i:Int)<(n:Int):=by omega
   have hil:i<(lE xs).length:=by rw [lE_len,HL.out];exact hlt
   obtain ⟨hc1,-,h0 | ⟨b,o,rfl,hb,hcE,hcP⟩⟩:=HE.out.later HW.out
   ·have:=HL.out;rw [h0] at this;simp at this;omega
   have hEs:EnsAt wr b o xs:=⟨hb,hcE,hcP⟩
   obtain ⟨e0,-⟩:=hEs.at (show i<xs.length by rw [HL.out];exact hlt)
   have hmem:xs.getD i noL∈xs:=by
    rw [List.getD_eq_getElem?_getD,List.getElem?_eq_getElem (by rw [HL.out];exact hlt)]
    exact List.getElem_mem _
   have hk:=HP.out i (by rw [HL.out];exact hlt)
   have hstep:=wr_drop (k:=k) (m:=m) hil
   rw [HF.out] at hstep
   rw [lE_at] at hstep
   have HST:=hid_of hstep
   obtain ⟨p1,h0 | ⟨b',o',hA,hb',hc'⟩⟩:=hcP _ hmem
   ·rw [h0] at hk;simp at hk
   have e3:=hc' k hk
   rw [hA] at e0
   rw [HL.out] at hc1
   have hcI:(n:Int)≤(ce:Int):=by omega
   have hkI:(k:Int)<((xs.getD i noL).e.pl.length:Int):=by omega
   have hpI:((xs.getD i noL).e.pl.length:Int)≤((xs.getD i noL).c:Int):=by omega
   generalize (xs.getD i noL).e.pl.getD k 0=v at e3 HST
   generalize (xs.getD i noL).e.pl.length=pn at e0 hkI hpI
   generalize (xs.getD i noL).c=pc at e0 hpI
   clear hEs hcE hcP hmem hstep hc' p1 hA hk hil
   by_cases hv:v=m
   ·have hvb:(v == m)=true:=by simpa using hv
    have HR:Hid ((lE xs).any (fun e=>decide (e.pl.getD k 0=m))=true):=by show _=_;rw [HST.out,decide_eq_true hv];rfl
    clear hv
    go_wp2_with fail
    go_ret
    exact ⟨by rw [HR.out];rfl,HW.out⟩
   ·have hvb:(v == m)=false:=by simpa using hv
    have HR:Hid (((lE xs).drop (i+1)).any (fun e=>decide (e.pl.getD k 0=m))=(lE xs).any fun e=>decide (e.pl.getD k 0=m)):=by show _=_;rw [HST.out,decide_eq_false hv];rfl
    clear hv
    go_wp2_with fail
    go_roundg (n-(i+1))
    case measure=>omega
    case rel=>exact ⟨i+1,by omega,rfl,by go_num,HR,HW⟩
  ·have hke:i=n:=by omega
   subst hke
   have HR:Hid ((lE xs).any (fun e=>decide (e.pl.getD k 0=m))=false):=by
    show _=_
    rw [←HF.out,List.drop_eq_nil_of_le (by rw [lE_len,HL.out];exact Nat.le_refl _)]
    rfl
   go_wp2_with fail
   go_ret
   exact ⟨by rw [HR.out];rfl,HW.out⟩
end Go.Proofs.YtfldgghobddgkaaGreatDoor
