/-
  tallyref2.SheetText, its statements whole: members and dims.
-/
import Derived.Test.YtinebmjpdkjooaaGreatDoorJZBQ
namespace Go.Proofs.YtinebmjpdkjooaaGreatDoor
open Go Go.ChangeShapes Go.WideShapes Go.ChangeAt Go.RowKit
set_option maxRecDepth 1000000
set_option maxHeartbeats 64000000
theorem stMs (T:Array Value) (s:Nat→Value) (w1:World) (q mm cm:Nat) (Am:Option Addr) (M:Nat→Mem) (t:List UInt8) (hF:stF T s) (h5:s 5=.string ⟨t.toArray⟩) (h7:s 7=.pointer (some ⟨q,0,none⟩)) (hq:∀ w',Below w1.heap.size w1 w'→w'.cell? ⟨q,2,none⟩=some (.slice Am mm cm)) (hM:MemsV w1 Am cm mm M) (hm:mm≤12) (he:∀ j,j<mm→memErr M j=0) (ht:t.length≤549755813888) (J:Act→World→Prop) (Q:Exit→Act→World→Prop)
  (hJ:∀ T' s' w',stF T' s'→Ag [5,9,10,11] s s'→s' 5=.string ⟨(t ++ memsT M mm).toArray⟩→Below w1.heap.size w1 w'→J ⟨T',[]⟩ w'):Code.wp Tryz.prog (stC [1,1,0,1,3,4,1,0,3,1,1,1]) (Exit.then J Q) ⟨T,[]⟩ w1:=by
 rw [show (stC [1,1,0,1,3,4,1,0,3,1,1,1])=(.seq (stC [1,1,0,1,3,4,1,0,3,1,1,1,0]) (.block 2 (.loop (.seq (.seq (stC [1,1,0,1,3,4,1,0,3,1,1,1,1,3,4,0,0]) (.cond (.tmp 43) .skip (.exit 2))) (.seq (.block 3 (stC [1,1,0,1,3,4,1,0,3,1,1,1,1,3,4,1,0,3])) (stC [1,1,0,1,3,4,1,0,3,1,1,1,1,3,4,1,1])))))) from rfl]
 refine wp_seq (stL8 T s w1 hF _ _ fun T2 hF2=>?_)
 refine for_wp mm (fun k=>decide (k<mm)) (by simp)
  (fun k s' w'=>Ag [5,9,10,11] s s'∧s' 5=.string ⟨(t ++ memsT M k).toArray⟩∧s' 9=.int .i64 (k:Nat)∧Below w1.heap.size w1 w')
  (fun k s' w'=>Ag [5,9,10,11] s s'∧s' 5=.string ⟨(t ++ memsT M (k+1)).toArray⟩∧s' 9=.int .i64 (k:Nat)∧Below w1.heap.size w1 w')
  ?_ ?_ ?_ hF2 ⟨(Ag.refl _ _).up (by decide),by rw [show memsT M 0=[] from rfl,List.append_nil];exact h5,upG_at _ _ _,Below.refl _ _⟩ ?_
 ·rintro k T s' w' hk hF ⟨hA,h5,h9,hB⟩ K Q hKK
  exact stL9 T s' q k mm cm Am w' hF ((hA 7 (by decide)).trans h7) h9 (hq w' hB) _ _ hKK
 ·rintro k T s' w' hk-hF ⟨hA,h5,h9,hB⟩ K Q hKK
  obtain ⟨-,h0 | ⟨bm,om,e,hMs⟩⟩:=hM.later hB
  ·omega
  have hcq:=hq w' hB
  rw [e] at hcq
  obtain ⟨b1,b2,b3,b4,b5,b6⟩:=mem_right (he k hk) (by omega)
  have hl:=memsT_len k (by omega) (fun j hj=>he j (by omega))
  refine stMb T s' w' q bm om mm cm k (M k) (t ++ memsT M k) hF h5 ((hA 7 (by decide)).trans h7) h9 hcq hk (hMs.2 k hk) b1 b2 b3 b4 b5 b6 (by rw [List.length_append];omega) _ _ fun T3 s3 w3 hF3 hA3 h53 hb3=>hKK T3 s3 w3 hF3 ⟨hA.trans (hA3.wide (by decide)),?_,(hA3 9 (by decide)).trans h9,onB hB hb3⟩
  rw [h53,memsT_succ,List.append_assoc]
 ·rintro k T s' w' hk hF ⟨hA,h5,h9,hB⟩ K Q hKK
  exact stL10 T s' k w' hF h9 (by omega) _ _ fun T' hF'=>hKK T' _ w' hF' ⟨hA.up (by decide),h5,upG_at _ _ _,hB⟩
 ·rintro k T3 s3 w3 hk hkf hF3 ⟨hA,h5,-,hB⟩
  have hke:k=mm:=by simp at hkf;omega
  subst hke
  exact hJ T3 s3 w3 hF3 hA h5 hB
theorem stDs (T:Array Value) (s:Nat→Value) (W:World) (b cap n:Nat) (A0:Option Addr) (D:Nat→Dm) (A:Nat→Option Addr) (C:Nat→Nat) (hF:stF T s) (h5:s 5=.string ⟨#[]⟩) (h2:s 2=.pointer (some ⟨b,0,none⟩)) (hc:∀ w',Below W.heap.size W w'→w'.cell? ⟨b,0,none⟩=some (.slice A0 n cap)) (hM:DimsV W A0 cap n D A C) (hE:(allErr D n).2.2=0) (J:Act→World→Prop) (Q:Exit→Act→World→Prop)
  (hJ:∀ T' s' w',stF T' s'→Ag [5,6,7,8,9,10,11] s s'→s' 5=.string ⟨(dimsT D n).toArray⟩→Below W.heap.size W w'→J ⟨T',[]⟩ w'):Code.wp Tryz.prog (stC [1,1,0]) (Exit.then J Q) ⟨T,[]⟩ W:=by
 rw [show (stC [1,1,0])=(.seq (stC [1,1,0,0]) (.block 0 (.loop (.seq (.seq (stC [1,1,0,1,3,4,0,0]) (.cond (.tmp 19) .skip (.exit 0))) (.seq (.block 1 (.seq (stC [1,1,0,1,3,4,1,0,3,0]) (.seq (stC [1,1,0,1,3,4,1,0,3,1,0]) (.seq (stC [1,1,0,1,3,4,1,0,3,1,1,0]) (stC [1,1,0,1,3,4,1,0,3,1,1,1]))))) (stC [1,1,0,1,3,4,1,1])))))) from rfl]
 obtain ⟨-,hn4,-,-⟩:=allErr_some hE
 have hdr:∀ i,i<n→(dimErr (D i)).2=0:=(allErr_right hE).2
 refine wp_seq (stL2 T s W hF _ _ fun T2 hF2=>?_)
 refine for_wp n (fun k=>decide (k<n)) (by simp)
  (fun k s' w'=>Ag [5,6,7,8,9,10,11] s s'∧s' 5=.string ⟨(dimsT D k).toArray⟩∧s' 6=.int .i64 (k:Nat)∧Below W.heap.size W w')
  (fun k s' w'=>Ag [5,6,7,8,9,10,11] s s'∧s' 5=.string ⟨(dimsT D (k+1)).toArray⟩∧s' 6=.int .i64 (k:Nat)∧Below W.heap.size W w')
  ?_ ?_ ?_ hF2 ⟨(Ag.refl _ _).up (by decide),h5,upG_at _ _ _,Below.refl _ _⟩ ?_
 ·rintro k T s' w' hk hF ⟨hA,h5,h6,hB⟩ K Q hKK
  exact stL3 T s' b k n cap A0 w' hF ((hA 2 (by decide)).trans h2) h6 (hc w' hB) _ _ hKK
 ·rintro k T s' w' hk-hF ⟨hA,h5,h6,hB⟩ K Q hKK
  obtain ⟨-,h0 | ⟨d,od,e,hDs⟩⟩:=hM.later hB
  ·omega
  have hcb:=hc w' hB
  rw [e] at hcb
  obtain ⟨a0,a1,a2,hMs⟩:=hDs.2 k hk
  obtain ⟨-,m1,m2,m3⟩:=dimErr_right (hdr k hk)
  obtain ⟨b1,b2,b3⟩:=dim_right (hdr k hk)
  have hl:=dimsT_len hdr k (by omega)
  have hhl:=hdT_len b1 b2 b3
  refine wp_seq (stL5 T s' b d od n cap k (D k).name (D k).solve (A k) (D k).n (C k) w' hF ((hA 2 (by decide)).trans h2) h6 hcb hk a0 a1 a2 _ _ fun T hF=>?_)
  have hbl:Below w'.heap.size w' (w'.alloc (.cells #[.string (D k).name,.int .i64 (D k).solve,.slice (A k) (D k).n (C k)] 43)):=by go_grown
  have hbx:(w'.alloc (.cells #[.string (D k).name,.int .i64 (D k).solve,.slice (A k) (D k).n (C k)] 43)).heap[w'.heap.size]?=some (.cells #[.string (D k).name,.int .i64 (D k).solve,.slice (A k) (D k).n (C k)] 43 (0,0)):=heap_alloc_new ..
  generalize (w'.alloc (.cells #[.string (D k).name,.int .i64 (D k).solve,.slice (A k) (D k).n (C k)] 43))=w1 at hbl hbx ⊢
  have hlt:=(Array.getElem?_eq_some_iff.1 hbx).1
  have hcell:∀ {w2:World},Below w1.heap.size w1 w2→w2.cell? ⟨w'.heap.size,0,none⟩=some (.string (D k).name)∧w2.cell? ⟨w'.heap.size,1,none⟩=some (.int .i64 (D k).solve)∧w2.cell? ⟨w'.heap.size,2,none⟩=some (.slice (A k) (D k).n (C k)):=fun h=>by
   have h1:=(h.block _ hlt).trans hbx
   exact ⟨(Lib.cell_of_heap h1 0).trans rfl,(Lib.cell_of_heap h1 1).trans rfl,(Lib.cell_of_heap h1 2).trans rfl⟩
  obtain ⟨c0,c1,c2⟩:=hcell (Below.refl _ _)
  refine wp_seq (stL6 T _ w'.heap.size (D k).solve (fun v w2=>v=.string ⟨(Lib.itoa (D k).solve).toArray⟩∧w2=w1) w1 hF (upG_at _ _ _) c1 ?_ _ _ fun T v w2 hF hX=>?_)
  ·refine (digits_any (D k).solve (by omega) (by omega) w1).mono ?_
   rintro e w2 ⟨rfl,rfl⟩
   exact ⟨_,rfl,rfl,rfl⟩
  obtain ⟨rfl,rfl⟩:=hX
  have a3:=Lib.itoa_length_le (D k).solve (by omega) (by omega)
  refine wp_seq (stL7 T _ w'.heap.size (D k).name ⟨(dimsT D k).toArray⟩ ⟨(Lib.itoa (D k).solve).toArray⟩ w2 hF h5 rfl (upG_at _ _ _) c0 (by rw [str_sz];omega) (by omega) (by rw [str_sz];omega) _ _ fun T hF=>?_)
  have he:((((((⟨(dimsT D k).toArray⟩:ByteArray) ++ ⟨#[100,105,109,32]⟩) ++ (D k).name) ++ ⟨#[32]⟩) ++ ⟨(Lib.itoa (D k).solve).toArray⟩) ++ ⟨#[10]⟩)=⟨(dimsT D k ++ hdT (D k)).toArray⟩:=by
   unfold hdT
   simp only [str_add]
   simp
  rw [he] at hF
  clear he
  refine stMs T _ w2 w'.heap.size (D k).n (C k) (A k) (D k).mem (dimsT D k ++ hdT (D k)) hF (upG_at _ _ _) rfl (fun w3 h=>(hcell h).2.2) (hMs.later hbl) m2 m3 (by rw [List.length_append];omega) _ _ fun T3 s3 w3 hF3 hA3 h53 hb3=>hKK T3 s3 w3 hF3 ⟨((((hA.up (by decide)).up (by decide)).up (by decide)).trans (hA3.wide (by decide))),?_,(hA3 6 (by decide)).trans h6,onB hB (onB hbl hb3)⟩
  rw [h53,dimsT_succ,List.append_assoc]
 ·rintro k T s' w' hk hF ⟨hA,h5,h6,hB⟩ K Q hKK
  exact stL4 T s' k w' hF h6 (by omega) _ _ fun T' hF'=>hKK T' _ w' hF' ⟨hA.up (by decide),h5,upG_at _ _ _,hB⟩
 ·rintro k T3 s3 w3 hk hkf hF3 ⟨hA,h5,-,hB⟩
  have hke:k=n:=by simp at hkf;omega
  subst hke
  exact hJ T3 s3 w3 hF3 hA h5 hB
theorem stCs (T:Array Value) (s:Nat→Value) (w0 W:World) (b cap n:Nat) (A0:Option Addr) (D:Nat→Dm) (A:Nat→Option Addr) (C:Nat→Nat) (AE:Option Addr) (ce:Nat) (xs:List EnL) (t:List UInt8) (hF:stF T s) (h1:s 1=.slice AE xs.length ce) (h2:s 2=.pointer (some ⟨b,0,none⟩)) (h5:s 5=.string ⟨t.toArray⟩) (hB0:Below w0.heap.size w0 W) (hc:∀ w',Below w0.heap.size w0 w'→w'.cell? ⟨b,0,none⟩=some (.slice A0 n cap)) (hM:DimsV w0 A0 cap n D A C) (hEn:EnsV w0 AE ce xs) (hEs:∀ e∈lE xs,InO D n e.pl∧numOk e.n=true) (hx:xs.length≤3000) (ht:t.length≤549755813888) (J:Act→World→Prop) (Q:Exit→Act→World→Prop)
  (hJ:∀ T' s' w',stF T' s'→Ag [5,12,13,14] s s'→s' 5=.string ⟨(t ++ celsT D n (lE xs)).toArray⟩→Below W.heap.size W w'→J ⟨T',[]⟩ w'):Code.wp Tryz.prog (stC [1,1,1,0]) (Exit.then J Q) ⟨T,[]⟩ W:=by
 rw [show (stC [1,1,1,0])=(.seq (stC [1,1,1,0,0]) (.block 4 (.loop (.seq (.seq (stC [1,1,1,0,1,3,4,0,0]) (.cond (.tmp 87) .skip (.exit 4))) (.seq (.block 5 (.seq (stC [1,1,1,0,1,3,4,1,0,3,0]) (.seq (stC [1,1,1,0,1,3,4,1,0,3,1,0]) (stC [1,1,1,0,1,3,4,1,0,3,1,1])))) (stC [1,1,1,0,1,3,4,1,1])))))) from rfl]
 have hll:(lE xs).length=xs.length:=lE_len xs
 refine wp_seq (stL19 T s W hF _ _ fun T2 hF2=>?_)
 refine for_wp xs.length (fun k=>decide (k<xs.length)) (by simp)
  (fun k s' w'=>Ag [5,12,13,14] s s'∧s' 5=.string ⟨(t ++ celsT D n ((lE xs).take k)).toArray⟩∧s' 12=.int .i64 (k:Nat)∧Below W.heap.size W w')
  (fun k s' w'=>Ag [5,12,13,14] s s'∧s' 5=.string ⟨(t ++ celsT D n ((lE xs).take (k+1))).toArray⟩∧s' 12=.int .i64 (k:Nat)∧Below W.heap.size W w')
  ?_ ?_ ?_ hF2 ⟨(Ag.refl _ _).up (by decide),by rw [List.take_zero,show celsT D n []=[] from rfl,List.append_nil];exact h5,upG_at _ _ _,Below.refl _ _⟩ ?_
 ·rintro k T s' w' hk hF ⟨hA,h5,h12,hB⟩ K Q hKK
  exact stL20 T s' k xs.length ce AE w' hF ((hA 1 (by decide)).trans h1) h12 _ _ hKK
 ·rintro k T s' w' hk-hF ⟨hA,h5,h12,hB⟩ K Q hKK
  have hB':=onB hB0 hB
  obtain ⟨-,-,h0 | ⟨be,oe,e,hAt⟩⟩:=hEn
  ·rw [h0] at hk;simp at hk
  have hAt':=EnsAt.later hAt hB'
  obtain ⟨c0,c1⟩:=EnsAt.at hAt' hk
  have hpl:=EnsAt.pl hAt' hk
  have h1':s' 1=.slice (some ⟨be,oe,none⟩) xs.length ce:=by rw [←e];exact (hA 1 (by decide)).trans h1
  have hge:(lE xs).getD k noEn=(xs.getD k noL).e:=by
   unfold lE
   rw [List.getD_eq_getElem?_getD,List.getD_eq_getElem?_getD,List.getElem?_map,List.getElem?_eq_getElem hk]
   rfl
  obtain ⟨hI,hno⟩:=hEs (xs.getD k noL).e (List.mem_map.2 ⟨_,enl_mem hk,rfl⟩)
  have hno':=hno
  unfold numOk at hno'
  simp only [Bool.and_eq_true,decide_eq_true_eq] at hno'
  have htl:=textTo_len hI n (Nat.le_refl _)
  have hn4:n≤4:=(allErr_some hI.right).2.1
  have hcl:(celsT D n ((lE xs).take k)).length≤((lE xs).take k).length*1000:=celsT_len _ fun x hx=>hEs x (List.mem_of_mem_take hx)
  have hkl:((lE xs).take k).length≤3000:=by rw [List.length_take];omega
  refine wp_seq (stL22 T s' b be oe xs.length ce k (.slice A0 n cap) (fun v w2=>v=.string ⟨(textTo D (xs.getD k noL).e.pl n).toArray⟩∧Below w'.heap.size w' w2) (xs.getD k noL).A (xs.getD k noL).e.pl.length (xs.getD k noL).c w' hF h1' ((hA 2 (by decide)).trans h2) h12 (hc w' hB') hk c0 (fun w2 hb=>?_) _ _ fun T v w2 hF hX=>?_)
  ·refine (rptext_any A0 cap n D A C (xs.getD k noL).A (xs.getD k noL).c (xs.getD k noL).e.pl w2 hI (hM.later (onB hB' hb)) (hpl.later hb)).mono ?_
   rintro e w3 ⟨rfl,hb3⟩
   exact ⟨_,rfl,rfl,onB hb hb3⟩
  obtain ⟨rfl,hb2⟩:=hX
  have hB2:=onB hB' hb2
  obtain ⟨-,d1⟩:=EnsAt.at (EnsAt.later hAt hB2) hk
  refine wp_seq (stL23 T _ be oe xs.length ce k (xs.getD k noL).e.n (fun v w3=>v=.string ⟨(Lib.itoa (xs.getD k noL).e.n).toArray⟩∧w3=w2) w2 hF h1' h12 hk d1 ?_ _ _ fun T v w3 hF hX=>?_)
  ·refine (digits_any (xs.getD k noL).e.n (by omega) (by omega) w2).mono ?_
   rintro e w3 ⟨rfl,rfl⟩
   exact ⟨_,rfl,rfl,rfl⟩
  obtain ⟨rfl,rfl⟩:=hX
  have a3:=Lib.itoa_length_le (xs.getD k noL).e.n (by omega) (by omega)
  refine stL24 T _ ⟨(t ++ celsT D n ((lE xs).take k)).toArray⟩ ⟨(textTo D (xs.getD k noL).e.pl n).toArray⟩ ⟨(Lib.itoa (xs.getD k noL).e.n).toArray⟩ w3 hF h5 rfl (upG_at _ _ _) (by rw [str_sz,List.length_append];omega) (by rw [str_sz];omega) (by rw [str_sz];omega) _ _ fun T3 hF3=>hKK T3 _ w3 hF3 ⟨((hA.up (by decide)).up (by decide)).up (by decide),?_,h12,onB hB hb2⟩
  rw [upG_at,celsT_take D n (lE xs) (by omega),hge]
  unfold celT
  simp only [str_add]
  simp
 ·rintro k T s' w' hk hF ⟨hA,h5,h12,hB⟩ K Q hKK
  exact stL21 T s' k w' hF h12 (by omega) _ _ fun T' hF'=>hKK T' _ w' hF' ⟨hA.up (by decide),h5,upG_at _ _ _,hB⟩
 ·rintro k T3 s3 w3 hk hkf hF3 ⟨hA,h5,-,hB⟩
  have hke:k=xs.length:=by simp at hkf;omega
  subst hke
  exact hJ T3 s3 w3 hF3 hA (by rw [h5,←hll,List.take_length]) hB
theorem stEnd (T:Array Value) (s:Nat→Value) (w:World) (t:ByteArray) (hF:stF T s) (h5:s 5=.string t) (R:Ending→World→Prop) (hR:R (.returned (.string t)) w):Code.wp Tryz.prog (stC [1,1,1,1]) (bodyPost Tryz.prog Tryz.f5 R) ⟨T,[]⟩ w:=by
 obtain ⟨x,rfl⟩:=st_open hF
 unfold stL
 rw [h5]
 have HR:=hid_of hR
 clear hR hF h5
 rw [show (stC [1,1,1,1])=atC [1,1,1,1] (Tryz.f5.body.getD .skip) from rfl]
 conv=>arg 2;whnf
 go_wp2_with fail
 exact HR.out
theorem st_start (a0 a1:Value):stF (#[a0,a1] ++ Array.replicate 110 undef) (fun i=>[a0,a1].getD i undef)∧(fun i=>[a0,a1].getD i undef:Nat→Value) 0=a0∧(fun i=>[a0,a1].getD i undef:Nat→Value) 1=a1 :=
 ⟨⟨by simp,by rw [Array.toList_append,Array.toList_replicate];rfl⟩,rfl,rfl⟩
theorem stext_any (A0:Option Addr) (cap n:Nat) (D:Nat→Dm) (A:Nat→Option Addr) (C:Nat→Nat) (AE:Option Addr) (ce:Nat) (xs:List EnL) (w:World) (hEs:Ens D n (lE xs)) (hM:DimsV w A0 cap n D A C) (hEn:EnsV w AE ce xs) :
  Calls Tryz.prog 5 #[.agg #[.slice A0 n cap],.slice AE xs.length ce] w fun e w'=>e=.returned (.string ⟨(shT D n (lE xs)).toArray⟩)∧Below w.heap.size w w':=by
 have hB0:=ownOut_below w A0 n cap 24
 have hat:=ownOut_at w A0 n cap 24
 have hsz:=ownOut_size w A0 n cap 24
 obtain ⟨W,hW⟩:∃ W,ownOut w A0 n cap 24=W:=⟨_,rfl⟩
 rw [hW] at hB0 hat hsz
 have hc:∀ w',Below W.heap.size W w'→w'.cell? ⟨w.heap.size,0,none⟩=some (.slice A0 n cap):=fun w' h=>(h.cell (p:=⟨w.heap.size,0,none⟩) (by show w.heap.size<_;omega)).trans hat
 have hdr:∀ i,i<n→(dimErr (D i)).2=0:=(allErr_right hEs.right).2
 have hn4:n≤4:=(allErr_some hEs.right).2.1
 have hx:xs.length≤3000:=by have:=hEs.few;rw [lE_len] at this;exact this
 have hdl:=dimsT_len hdr n (Nat.le_refl _)
 refine calls_of_wp (c:=stC []) Tryz.func5 rfl ?_
 rw [Tryz.ntmps5]
 simp only [List.size_toArray,List.length_cons,List.length_nil,Nat.reduceAdd,Nat.reduceSub]
 obtain ⟨hF,h0,h1⟩:=st_start (.agg #[.slice A0 n cap]) (.slice AE xs.length ce)
 generalize (#[.agg #[.slice A0 n cap],.slice AE xs.length ce] ++ Array.replicate 110 undef:Array Value)=T at hF ⊢
 generalize (fun i=>[.agg #[.slice A0 n cap],.slice AE xs.length ce].getD i undef:Nat→Value)=s at hF h0 h1
 rw [show (stC [])=(.seq (stC [0]) (.seq (stC [1,0]) (.seq (stC [1,1,0]) (.seq (stC [1,1,1,0]) (stC [1,1,1,1]))))) from rfl]
 refine wp_seq (wp_mono (stL0 T s A0 n cap w hF h0 _ (bodyPost Tryz.prog Tryz.f5 _) fun T hF=>?_) fun _ _ _ h=>h)
 rw [hW]
 refine wp_seq (wp_mono (stL1 T _ W hF _ (bodyPost Tryz.prog Tryz.f5 _) fun T hF=>?_) fun _ _ _ h=>h)
 refine wp_seq (wp_mono (stDs T _ W w.heap.size cap n A0 D A C hF (upG_at _ _ _) rfl hc (hM.later hB0) hEs.right _ (bodyPost Tryz.prog Tryz.f5 _) fun T s3 w3 hF hA h5 hb3=>?_) fun _ _ _ h=>h)
 refine wp_seq (wp_mono (stCs T s3 W w3 w.heap.size cap n A0 D A C AE ce xs (dimsT D n) hF ((hA 1 (by decide)).trans h1) ((hA 2 (by decide)).trans rfl) h5 hb3 hc (hM.later hB0) (hEn.later hB0) (fun e he=>⟨(hEs.each e he).1,(hEs.each e he).2.2⟩) hx (by omega) _ (bodyPost Tryz.prog Tryz.f5 _) fun T s4 w4 hF hA4 h5 hb4=>?_) fun _ _ _ h=>h)
 exact stEnd T s4 w4 _ hF h5 _ ⟨rfl,onB hB0 (onB hb3 hb4)⟩
end Go.Proofs.YtinebmjpdkjooaaGreatDoor
namespace Go.Proofs.YtinebmjpdkjooaaGreatDoor
open Go Go.ChangeShapes Go.WideShapes Go.ChangeAt Go.RowKit
set_option maxRecDepth 20000
def mkB (l:List UInt8):ByteArray:=⟨l.toArray⟩
theorem mkB_data (l:List UInt8):(mkB l).data.toList=l:=rfl
theorem pcs_map (c:UInt8) (s:ByteArray):piecesC c s=(cutB c s.data.toList).map mkB:=rfl
def dimW (d:RDm):List UInt8:=[100,105,109,32] ++ d.name.data.toList ++ [32] ++ Lib.itoa d.solve
def memW (m:Mem):List UInt8:=[109,101,109,32] ++ m.name.data.toList ++ [32] ++ paB m.parent ++ [32] ++ sgT m.sign ++ foB m.formula
def celW (p:ByteArray) (x:Int):List UInt8:=[99,101,108,108,32] ++ p.data.toList ++ [32] ++ Lib.itoa x
def dimLs (d:RDm):List (List UInt8):=dimW d :: d.mem.map memW
def celLs:List ByteArray→List Int→List (List UInt8)
 | p :: ps,x :: xs=>celW p x :: celLs ps xs
 | _,_=>[]
def shTx (X:List (List UInt8)):List UInt8:=X.flatMap fun l=>l ++ [10]
def lnL (ds:List RDm) (pl:List ByteArray) (num:List Int):List (List UInt8):=ds.flatMap dimLs ++ celLs pl num
theorem shTx_app (A B:List (List UInt8)):shTx (A ++ B)=shTx A ++ shTx B:=by simp [shTx]
theorem celLs_snoc:∀ (pl:List ByteArray) (num:List Int),num.length=pl.length→∀ p x,celLs (pl ++ [p]) (num ++ [x])=celLs pl num ++ [celW p x]
 | [],[],_,_,_=>rfl
 | _ :: ps,[],h,_,_=>by cases h
 | [],_ :: _,h,_,_=>by cases h
 | _ :: ps,_ :: xs,h,p,x=>by
  have:=celLs_snoc ps xs (by simpa using h) p x
  simp only [List.cons_append,celLs,this]
theorem celLs_range:∀ (pl:List ByteArray) (num:List Int),num.length=pl.length→celLs pl num=(List.range pl.length).map fun k=>celW (pl.getD k noWd) (num.getD k 0)
 | [],[],_=>rfl
 | _ :: ps,[],h=>by cases h
 | [],_ :: _,h=>by cases h
 | p :: ps,x :: xs,h=>by
  have:=celLs_range ps xs (by simpa using h)
  rw [List.length_cons,List.range_succ_eq_map,List.map_cons,List.map_map,celLs,this]
  rfl
theorem range_getD {α:Type} (l:List α) (z:α):(List.range l.length).map (fun i=>l.getD i z)=l:=by
 apply List.ext_getElem
 ·simp
 ·intro i h1 h2
  simp [List.getD,h2]
theorem range_flat {α:Type} (l:List α) (z:α) (f:α→List UInt8):(List.range l.length).flatMap (fun i=>f (l.getD i z))=l.flatMap f:=by
 conv=>rhs;rw [←range_getD l z]
 rw [List.flatMap_map]
theorem dimsT_list (ds:List RDm):dimsT (dmL ds) ds.length=shTx (ds.flatMap dimLs):=by
 have e1:∀ d:RDm,hdT (toDm d) ++ memsT (toDm d).mem (toDm d).n=shTx (dimLs d):=fun d=>by
  have e2:memsT (toDm d).mem (toDm d).n=d.mem.flatMap memT:=range_flat d.mem noM memT
  rw [e2]
  show _=(dimW d ++ [10]) ++ (d.mem.map memW).flatMap fun l=>l ++ [10]
  rw [List.flatMap_map]
  rfl
 have e3:dimsT (dmL ds) ds.length=ds.flatMap fun d=>hdT (toDm d) ++ memsT (toDm d).mem (toDm d).n:=range_flat ds noRD fun d=>hdT (toDm d) ++ memsT (toDm d).mem (toDm d).n
 rw [e3]
 unfold shTx
 rw [List.flatMap_assoc]
 congr 1
 funext d
 exact e1 d
theorem flat_cg {α β:Type} {f g:α→List β}:∀ l:List α,(∀ x∈l,f x=g x)→l.flatMap f=l.flatMap g
 | [],_=>rfl
 | x :: r,h=>by
  rw [List.flatMap_cons,List.flatMap_cons,h x (List.mem_cons_self ..),flat_cg r fun y hy=>h y (List.mem_cons_of_mem _ hy)]
theorem words3 {s:ByteArray} (h:(wdsB s).length=3):s.data.toList=(wdB (wdsB s) 0).data.toList ++ [32] ++ (wdB (wdsB s) 1).data.toList ++ [32] ++ (wdB (wdsB s) 2).data.toList:=by
 have hj:=join_cut 32 s.data.toList
 unfold wdsB at *
 rw [pcs_map] at *
 generalize cutB 32 s.data.toList=X at h hj
 rcases X with _ | ⟨a,_ | ⟨b,_ | ⟨c,_ | ⟨d,r⟩⟩⟩⟩
 ·cases h
 ·cases h
 ·cases h
 ·rw [←hj]
  simp [joinB,wdB,mkB]
 ·simp at h
theorem words4 {s:ByteArray} (h:(wdsB s).length=4):s.data.toList=(wdB (wdsB s) 0).data.toList ++ [32] ++ (wdB (wdsB s) 1).data.toList ++ [32] ++ (wdB (wdsB s) 2).data.toList ++ [32] ++ (wdB (wdsB s) 3).data.toList:=by
 have hj:=join_cut 32 s.data.toList
 unfold wdsB at *
 rw [pcs_map] at *
 generalize cutB 32 s.data.toList=X at h hj
 rcases X with _ | ⟨a,_ | ⟨b,_ | ⟨c,_ | ⟨d,_ | ⟨e,r⟩⟩⟩⟩⟩
 ·cases h
 ·cases h
 ·cases h
 ·cases h
 ·rw [←hj]
  simp [joinB,wdB,mkB]
 ·simp at h
theorem isB_data {x:ByteArray} {l:List UInt8} (h:isB x l=true):x.data.toList=l:=by rw [isB_l] at h;exact of_decide_eq_true h
theorem int_back {s:ByteArray} (h:intB s=true):Lib.itoa (intI s)=s.data.toList:=by
 unfold intB at h
 unfold intI
 obtain ⟨v,hv⟩:=Option.isSome_iff_exists.1 h
 rw [hv]
 unfold numK at hv
 split at hv
 ·exact numP_back hv
 ·cases hv
theorem pa_back {s:ByteArray} (h:paOk s=true):paB (paI s)=s.data.toList:=by
 unfold paOk at h
 unfold paI paB
 by_cases h1:isB s [45]=true
 ·rw [if_pos h1,if_neg (by decide),isB_data h1]
 ·rw [if_neg h1]
  have h2:isB s [45]=false:=by simpa using h1
  rw [h2,Bool.false_or,Bool.and_eq_true,decide_eq_true_eq] at h
  rw [if_pos h.2,int_back h.1]
theorem sg_back {x:ByteArray} (h:sgOk x=true):sgT (sgI x) ++ foB (foS x)=x.data.toList:=by
 obtain ⟨a,r,hl,hI,hf⟩:=sgI_l h
 have ha:s3 a=true:=by
  have h2:=h
  rw [sgOk_l,hl] at h2
  rcases hf with ⟨rfl,-⟩ | ⟨⟨c,t,rfl⟩,-⟩
  ·exact h2
  ·simp only [sgL,Bool.and_eq_true] at h2
   exact h2.2
 have hs:sgT (sgI x)=[a]:=by
  rw [hI]
  unfold s3 at ha
  simp only [Bool.or_eq_true,decide_eq_true_eq] at ha
  rcases ha with (rfl | rfl) | rfl <;> rfl
 rw [hs,hl]
 rcases hf with ⟨rfl,hf⟩ | ⟨⟨c,t,rfl⟩,hf⟩
 ·rw [hf]
  have:foB noWd=[]:=by unfold foB;rw [if_pos (by rw [ByteArray.toList_eq];rfl)]
  rw [this]
  rfl
 ·have h5:(x.extract 2 x.size).data.toList=c :: t:=by
   rw [Lib.extract_to_end,hl];rfl
  have h6:(foS x).toList.isEmpty=false:=by rw [hf,ByteArray.toList_eq,h5];rfl
  unfold foB
  rw [h6,hf,h5]
  rfl
theorem addM_snoc (a:List RDm) (b:RDm) (m:Mem):addM (a ++ [b]) m=a ++ [⟨b.name,b.solve,b.mem ++ [m]⟩]:=by
 unfold addM
 have e:(a ++ [b]).length-1=a.length:=by simp
 rw [e,List.set_append_right _ _ (Nat.le_refl _),Nat.sub_self]
 simp [List.getD]
theorem addM_flat (ds:List RDm) (m:Mem) (h:0<ds.length):(addM ds m).flatMap dimLs=ds.flatMap dimLs ++ [memW m]:=by
 obtain ⟨a,b,rfl⟩:∃ a b,ds=a ++ [b]:=⟨ds.dropLast,ds.getLast (by intro e;subst e;simp at h),(List.dropLast_concat_getLast _).symm⟩
 rw [addM_snoc]
 simp [dimLs]
 rfl
theorem ln_step {S:RdQ} {i:Nat} {s:ByteArray} (hn:S.num.length=S.pl.length) (h:(rdLine S i (wdsB s)).2=true):lnL (rdLine S i (wdsB s)).1.dims (rdLine S i (wdsB s)).1.pl (rdLine S i (wdsB s)).1.num=lnL S.dims S.pl S.num ++ [s.data.toList]:=by
 have hp0:∀ {l:List ByteArray} {m:List Int},m.length=l.length→l.length=0→celLs l m=[]:=fun {l m} h1 h2=>by
  have:l=[]:=List.length_eq_zero_iff.1 h2
  subst this
  cases m <;> rfl
 by_cases h0:kindB (wdsB s)=0
 ·rw [rd_none h0] at h;cases h
 ·by_cases h1:kindB (wdsB s)=1
  ·obtain ⟨r1,r2⟩:=rd_dim (S:=S) (i:=i) h1
   rw [r1] at h
   simp only [Bool.and_eq_true,decide_eq_true_eq] at h
   rw [r2 h.2]
   obtain ⟨k1,k2⟩:=kind_dim h1
   have hc:=h.1.1
   unfold cntB at hc
   rw [Bool.and_eq_true] at hc
   unfold lnL
   simp only []
   rw [hp0 hn h.2,List.append_nil,List.append_nil,List.flatMap_append,words3 k2,isB_data k1,←int_back hc.1]
   simp [dimLs,dimW]
  ·by_cases h2:kindB (wdsB s)=2
   ·obtain ⟨r1,r2⟩:=rd_mem (S:=S) (i:=i) h2
    rw [r1] at h
    rw [r2 h]
    obtain ⟨k1,k2⟩:=kind_mem h2
    unfold memOk at h
    simp only [Bool.and_eq_true,decide_eq_true_eq] at h
    obtain ⟨⟨⟨⟨p1,p2⟩,p3⟩,p4⟩,p5⟩:=h
    unfold lnL addMS
    simp only []
    rw [hp0 hn p5,List.append_nil,List.append_nil,addM_flat _ _ p4,words4 k2,isB_data k1,←pa_back p1,←sg_back p2]
    simp [memW]
   ·have h3:kindB (wdsB s)=3:=by have:=kind_le (wdsB s);omega
    rw [rd_cel h3] at h ⊢
    obtain ⟨k1,k2⟩:=kind_cel h3
    simp only [Bool.and_eq_true] at h
    unfold lnL addW
    simp only []
    rw [celLs_snoc _ _ hn,words3 k2,isB_data k1,←int_back h.1,List.append_assoc]
    simp [celW]
theorem ln_all (L:List ByteArray):∀ k,k≤L.length→(∀ j,j<k→rdOk L j=true)→lnL (rdTo L k).dims (rdTo L k).pl (rdTo L k).num=(L.take k).map fun s=>s.data.toList
 | 0,_,_=>rfl
 | k+1,hk,h=>by
  have ih:=ln_all L k (by omega) fun j hj=>h j (by omega)
  have h1:=h k (by omega)
  unfold rdOk at h1
  rw [rdTo_succ,ln_step (rdTo_dims L k).2.2 h1,ih,List.take_add_one,List.map_append]
  congr 1
  simp [List.getD,List.getElem?_eq_getElem (show k<L.length by omega)]
theorem rdEnd_all (L:List ByteArray):∀ f k,rdEnd L f k=none→(∀ j,k≤j→j<k+f→rdOk L j=true)∧(wdB L (k+f)).size=0
 | 0,k,h=>by
  rw [rdEnd] at h
  split at h
  ·rename_i h1;exact ⟨fun j h2 h3=>by omega,h1⟩
  ·cases h
 | f+1,k,h=>by
  rw [rdEnd] at h
  split at h
  ·rename_i h1
   obtain ⟨h2,h3⟩:=rdEnd_all L f (k+1) h
   refine ⟨fun j hj hj2=>?_,by rw [show k+(f+1)=k+1+f by omega];exact h3⟩
   by_cases e:j=k
   ·subst e;exact h1
   ·exact h2 j (by omega) (by omega)
  ·cases h
theorem join_end:∀ X:List (List UInt8),joinB 10 (X ++ [[]])=shTx X
 | []=>rfl
 | x :: r=>by
  rw [List.cons_append,joinB_cons _ _ (by simp),join_end r]
  simp [shTx]
theorem txt_back {t:ByteArray} (h:rdBad (piecesC 10 t)=none):shTx (lnL (psS t).dims (psS t).pl (psS t).num)=t.data.toList:=by
 have hp:=piecesC_pos 10 t
 unfold rdBad at h
 obtain ⟨h1,h2⟩:=rdEnd_all _ _ _ h
 rw [Nat.zero_add] at h2
 have h3:=ln_all (piecesC 10 t) ((piecesC 10 t).length-1) (by omega) fun j hj=>h1 j (Nat.zero_le _) (by omega)
 unfold psS
 rw [h3,←join_end]
 conv=>rhs;rw [←join_cut 10 t.data.toList]
 congr 1
 rw [pcs_map] at *
 generalize cutB 10 t.data.toList=X at hp h2
 rw [List.length_map] at hp h2 ⊢
 obtain ⟨a,b,rfl⟩:∃ a b,X=a ++ [b]:=⟨X.dropLast,X.getLast (by intro e;subst e;simp at hp),(List.dropLast_concat_getLast _).symm⟩
 have e:(a ++ [b]).length-1=a.length:=by simp
 rw [e] at h2 ⊢
 have hb:b=[]:=by
  have:wdB ((a ++ [b]).map mkB) a.length=mkB b:=by simp [wdB]
  rw [this,Lib.size_eq,mkB_data] at h2
  exact List.length_eq_zero_iff.1 h2
 subst hb
 rw [←List.map_take,List.take_left,List.map_map]
 have:((fun s:ByteArray=>s.data.toList) ∘ mkB)=id:=rfl
 rw [this,List.map_id]
theorem read_print {t:ByteArray} (h:psE t=0):shE (psD t) (psN t) (psL t)=0∧shV (psD t) (psN t) (psL t)=t:=by
 have hb:rdBad (piecesC 10 t)=none:=by
  cases hc:rdBad (piecesC 10 t) with
  | none=>rfl
  | some k=>unfold psE at h;rw [hc] at h;cases h
 have h2:psE2 t=0:=by unfold psE at h;rw [hb] at h;exact h
 unfold psE2 at h2
 split at h2
 ·rename_i h3;exact absurd h2 h3
 ·rename_i h3
  have hr:(ruErr (psD t) (psN t)).2.2=0:=by simpa using h3
  have hbad:=findFrom_cases (badE (psD t) (psN t) (psS t)) (psS t).pl.length 0
  split at h2
  ·rename_i h4
   rcases findFrom_two (badE (psD t) (psN t) (psS t)) (psS t).pl.length 0 with h5 | ⟨-,h5⟩
   ·have:ebad (psD t) (psN t) (psS t) = -1:=h5
    omega
   ·have h6:badE (psD t) (psN t) (psS t) (ebad (psD t) (psN t) (psS t)).toNat=true:=h5
    unfold badE at h6
    exact absurd h2 (of_decide_eq_true h6)
  ·rename_i h4
   have hE:shE (psD t) (psN t) (psL t)=0:=by unfold shE;rw [if_neg h3];exact h2
   refine ⟨hE,?_⟩
   have hok:∀ j,j<(psS t).pl.length→parseErr (psD t) (psN t) ((psS t).pl.getD j noWd)=0:=fun j hj=>by
    rcases hbad with ⟨-,h5⟩ | ⟨k,h5,-⟩
    ·have:=h5 j (Nat.zero_le _) (by omega)
     unfold badE at this
     simpa using this
    ·have:ebad (psD t) (psN t) (psS t)=k:=h5
     omega
   have hT:=txt_back hb
   unfold shV
   rw [if_pos hE]
   have e:shT (psD t) (psN t) (psL t)=t.data.toList:=by
    rw [←hT]
    unfold shT lnL
    rw [shTx_app]
    congr 1
    ·exact dimsT_list _
    ·have hnum:(psS t).num.length=(psS t).pl.length:=(rdTo_dims _ _).2.2
     rw [celLs_range _ _ hnum]
     unfold psL esL celsT shTx
     rw [List.flatMap_map,List.flatMap_map]
     have:∀ k∈List.range (psS t).pl.length,celT (psD t) (psN t) (enOf (psD t) (psN t) (psS t) k)=celW ((psS t).pl.getD k noWd) ((psS t).num.getD k 0) ++ [10]:=fun k hk=>by
      have hk':=List.mem_range.1 hk
      have h7:=hok k hk'
      have h8:=read_text h7
      unfold celT enOf celW
      simp only []
      have h9:parseL (psD t) (psN t) ((psS t).pl.getD k noWd)=readL (psD t) ((psS t).pl.getD k noWd) (psN t):=by unfold parseL;rw [if_pos h7]
      rw [h9,h8]
     exact flat_cg _ this
   rw [e]
end Go.Proofs.YtinebmjpdkjooaaGreatDoor
