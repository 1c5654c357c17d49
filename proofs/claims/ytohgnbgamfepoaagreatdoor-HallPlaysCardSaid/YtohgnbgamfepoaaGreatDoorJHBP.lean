/- An edit of entries tha -/
import Derived.Test.YtohgnbgamfepoaaGreatDoorJHBO
namespace Go.Proofs.YtohgnbgamfepoaaGreatDoor
open ChangeShapes WideShapes ChangeAt RowKit
set_option maxRecDepth 99999
set_option maxHeartbeats 0
theorem GX (xs:List EnL) (x:EnL) (i j:Nat):ah (xs.take i ++ x :: xs.drop j)=ah (xs.take i) ++ ah [x] ++ ah (xs.drop j):=by
 rw [show x :: xs.drop j=[x] ++ xs.drop j from rfl,cellsE_append,cellsE_append,List.append_assoc]
structure EditGood (w:World) (b o ce:Nat) (xs:List EnL) (Ax:Option Addr) (cx:Nat) (p:List Int) (i j:Nat):Prop where
 cells:∀ w',Bl w w'→∀ k u,(ah xs)[k]?=some u→w'.cell? ⟨b,o+k,none⟩=some u
 pls:∀ x∈xs,aZ w x.A x.c x.e.pl
 pl:aZ w Ax cx p
 few:xs.length≤3000
 cap:xs.length≤ce
 big:ce≤9223372036854775807
 fst:i≤xs.length
 snd:j≤xs.length
 ij:i≤j∧j≤i+1
theorem Dh (A0:Option Addr) (cap n:Nat) (b o I:Nat) (xs:List EnL) (Ax:Option Addr) (m d:Nat) (p:List Int) (N:Int) (a:Nat) (lf:Bool) (w:World) (hm:p.length=m) (hX:EditCalls (aM w A0 n cap Ax m d N false) A0 cap n (some ⟨b,o,none⟩) xs.length I Ax m d 0 a false lf) (hlf:lf=true) (hlo : ¬ N < -1000000) (hhi : ¬ 1000000<N) (D:EditGood w b o I xs Ax d p a (a)) :
  Calls Tryz.prog 23 #[.agg #[.slice A0 n cap],.slice (some ⟨b,o,none⟩) xs.length I,.agg #[.slice Ax m d,.int .i64 N,.bool false]] w fun e w'=>(∃ B c zs,e=.returned (.tuple #[.slice B zs.length c,.int .i64 0])∧fJ w' B c zs∧lE zs=(lE xs).take a ++ ⟨p,N⟩ :: (lE xs).drop (a))∧Bl w w':=by
 obtain ⟨i0,O,Q,x,z⟩:=info_parts Tryz.infoEnt;have HX:=aa hX;have K:Hid (Bl w (aM w A0 n cap Ax m d N false)):=dB ..;have h1:=hX.place _ (zS);have HG:=aa D;have HM:=aa hm;obtain ⟨nx,E⟩:=az xs.length;have K5:=D.few;have K4:=D.cap;have hbig:=D.big;have J:=D.fst;have K7:=D.snd;have HL1:Hid ((ah (xs.take a)).length=a*2):=by show _=_;rw [cellsE_len,List.length_take,Nat.min_eq_left J]
 have K0:Hid ((ah (xs.drop (a))).length=(nx-(a))*2):=by show _=_;rw [cellsE_len,List.length_drop,E]
 have HS1:Hid (∀ w',Bl w w'→∀ k u,(ah (xs.take a))[k]?=some u→w'.cell? ((⟨b,o,none⟩:Addr).add k)=some u):=fun w' F k u l=>by
  rw [aK];rw [←fL,List.getElem?_take] at l
  split at l
  ·exact D.cells w' F k u l
  cases l
 obtain ⟨A2,hA2,HS2⟩:∃ A2:Addr,(if I=a then some (⟨b,o,none⟩:Addr) else some ⟨b,o+(a)*2,none⟩)=some A2∧Hid (∀ w',Bl w w'→∀ k u,(ah (xs.drop (a)))[k]?=some u→w'.cell? (A2.add k)=some u):=by
  by_cases h:I=a
  ·refine ⟨⟨b,o,none⟩,by simp [h],fun w' F k u l=>?_⟩
   have h0:ah (xs.drop (a))=[]:=List.eq_nil_of_length_eq_zero (by rw [K0.out];omega)
   rw [h0] at l
   simp at l
  refine ⟨⟨b,o+(a)*2,none⟩,by simp [h],fun w' F k u l=>?_⟩
  rw [←eO,List.getElem?_drop] at l;rw [aK,Nat.add_assoc];exact D.cells w' F _ u l
 have HZ:Hid ((xs.take a ++ ⟨⟨p,N⟩,Ax,d⟩ :: xs.drop (a)).length=a+1+(nx-(a))):=by show _=_;simp only [List.length_append,List.length_cons,List.length_take,List.length_drop,E];omega
 have HLE:Hid (lE (xs.take a ++ ⟨⟨p,N⟩,Ax,d⟩ :: xs.drop (a))=(lE xs).take a ++ ⟨p,N⟩ :: (lE xs).drop (a)):=by show _=_;simp [lE]
 have Lc:Hid (ah (xs.take a ++ ⟨⟨p,N⟩,Ax,d⟩ :: xs.drop (a))=ah (xs.take a) ++ ah [⟨⟨p,N⟩,Ax,d⟩] ++ ah (xs.drop (a))):=GX ..;rw [E] at HX K5 K4 J K7 ⊢;have hi':(a:Int)≤(nx:Int):=by omega
 have hj':(((a:Nat)):Int)≤(nx:Int):=by omega
 have hn':(nx:Int)≤3000:=by omega
 have hcc:(nx:Int)≤(I:Int):=by omega
 clear hX D hm E;subst hlf
 go_enter Tryz.func23,Tryz.ntmps23
 go_wp2_with fail;refine h1.mono ?_;rintro e w1 ⟨rfl,f⟩;have La:=aa f;have c0:=aC f (by show w.heap.size<_;rw [aq];omega) (gf w A0 n cap Ax m d N false)
 have c1:=(f.cell (p:=⟨w.heap.size+1,0,none⟩) (by show w.heap.size+1<_;rw [aq];omega)).trans (aQ w A0 n cap Ax m d N false).1
 have W:Hid (w1.cell? ⟨w.heap.size+1,1,none⟩=some (.int .i64 N)):=(f.cell (p:=⟨w.heap.size+1,1,none⟩) (by show w.heap.size+1<_;rw [aq];omega)).trans (aQ w A0 n cap Ax m d N false).2.1
 have X:Hid (w1.cell? ⟨w.heap.size+1,2,none⟩=some (.bool false)):=(f.cell (p:=⟨w.heap.size+1,2,none⟩) (by show w.heap.size+1<_;rw [aq];omega)).trans (aQ w A0 n cap Ax m d N false).2.2
 have G:w.heap.size+1<w1.heap.size:=by have:=f.size;rw [aq] at this;omega
 have U:=aa c0;have V:=aa c1;have h2:=HX.out.find rfl w1 f;clear f h1;go_wp2_with fail;refine h2.mono ?_;rintro e w2 ⟨rfl,f⟩;have S:=aa (ae La.out f);have d0:w2.cell? ⟨w.heap.size,0,none⟩=some (.slice A0 n cap):=aC f (by show w.heap.size<_;omega) U.out
 have d1:w2.cell? ⟨w.heap.size+1,0,none⟩=some (.slice Ax m d):=aC f G V.out;have Y:=aa d1;have Z:Hid (w2.cell? ⟨w.heap.size+1,1,none⟩=some (.int .i64 N)):=aC f G W.out;have u9:Hid (w2.cell? ⟨w.heap.size+1,2,none⟩=some (.bool false)):=aC f G X.out;have H:w.heap.size+1<w2.heap.size:=zW G f.size;have h3:=HX.out.leaf rfl w2 S.out;clear f h2 c0 c1 U V W X;go_wp2_with fail;refine h3.mono ?_;rintro e w3 ⟨rfl,f⟩;have A:=aa (ae S.out f);have f1:w3.cell? ⟨w.heap.size+1,0,none⟩=some (.slice Ax m d):=aC f H Y.out;have f2:w3.cell? ⟨w.heap.size+1,1,none⟩=some (.int .i64 N):=aC f H Z.out;have f3:w3.cell? ⟨w.heap.size+1,2,none⟩=some (.bool false):=aC f H u9.out;have hz3:w.heap.size+1<w3.heap.size:=zW H f.size;clear f h3 d0 d1 Y Z u9;have HW3:=aa (ae K.out A.out)
 go_wp2_with (at_builtin;refine wpList_append_own _ rfl _ _ 35 rfl (aM w A0 n cap Ax m d N false).heap.size 83 i0 (.agg #[.slice none 0 0,.int .i64 0]) 2 32 Tryz.underlying35 O Q x z rfl (by decide) _ _ _ rfl (World.ownsRow_nil w3 (aM w A0 n cap Ax m d N false).heap.size 83 2) ⟨b,o,none⟩ a I (ah (xs.take a)) rfl ?qc1 ?qc2 ?qc3 ?qc4 ?qc5 ?qc6 ?_)
 case qc1=>exact HL1.out
 case qc2=>exact HS1.out w3 HW3.out
 case qc3=>exact bH _
 case qc4=>simp only [maxLen];omega
 case qc5=>omega
 case qc6=>exact A.out.size
 intro v1 w4 r g _;have K6:w4.ownsRow (aM w A0 n cap Ax m d N false).heap.size 83 2 v1 a (ah (xs.take a)):=by simpa using r
 have HO1:=aa K6;have q:Below (aM w A0 n cap Ax m d N false).heap.size (aM w A0 n cap Ax m d N false) w4:=gG A.out A.out.size (World.ownsRow_nil w3 (aM w A0 n cap Ax m d N false).heap.size 83 2) g;have Lb:=aa q;have R:w.heap.size+1<(aM w A0 n cap Ax m d N false).heap.size:=by rw [aq];omega
 have g1:w4.cell? ⟨w.heap.size+1,0,none⟩=some (.slice Ax m d):=(q.cell (p:=⟨w.heap.size+1,0,none⟩) R).trans (aQ w A0 n cap Ax m d N false).1;have g2:w4.cell? ⟨w.heap.size+1,1,none⟩=some (.int .i64 N):=(q.cell (p:=⟨w.heap.size+1,1,none⟩) R).trans (aQ w A0 n cap Ax m d N false).2.1;have g3:w4.cell? ⟨w.heap.size+1,2,none⟩=some (.bool false):=(q.cell (p:=⟨w.heap.size+1,2,none⟩) R).trans (aQ w A0 n cap Ax m d N false).2.2;clear r g K6 f1 f2 f3 q;have M:=dh w4 Ax m d N 83;have K3:Hid ((dt w4 Ax m d N 83).ownsRow (aM w A0 n cap Ax m d N false).heap.size 83 2 v1 a (ah (xs.take a))):=an HO1.out M;have L:=aa (ae Lb.out M);have K9:Hid (∀ k u,(ah [⟨⟨p,N⟩,Ax,d⟩])[k]?=some u→(dt w4 Ax m d N 83).cell? ((⟨w4.heap.size,0,none⟩:Addr).add k)=some u):=fun k u l=>by
  have hh:(dt w4 Ax m d N 83).heap[w4.heap.size]?=some (.cells #[.slice Ax m d,.int .i64 N] 83 (0,0)):=heap_alloc_new w4 _;rw [aK,Nat.zero_add,Lib.cell_of_heap hh]
  simpa [ah,HM.out] using l
 clear M
 go_wp2_with (at_builtin;refine wpList_append_own _ rfl _ _ 35 rfl (aM w A0 n cap Ax m d N false).heap.size 83 i0 (.agg #[.slice none 0 0,.int .i64 0]) 2 32 Tryz.underlying35 O Q x z rfl (by decide) _ _ _ rfl K3.out ⟨w4.heap.size,0,none⟩ 1 1 (ah [⟨⟨p,N⟩,Ax,d⟩]) rfl rfl K9.out (bH _) ?qd4 ?qd5 L.out.size ?_)
 case qd4=>simp only [maxLen];omega
 case qd5=>omega
 intro v2 w5 s i _;have K2:=aa s;have C:Hid (Below (aM w A0 n cap Ax m d N false).heap.size (aM w A0 n cap Ax m d N false) w5):=gG L.out L.out.size K3.out i;clear s i g1 g2 g3;have hwj:IntKind.i64.wrap ((a:Int)+1)=(a:Int)+1:=by rw [IntKind.wrap_i64];omega
 have htn:((a:Int)+1).toNat=a+1:=by omega
 have hS3:=HS2.out w5 (ae K.out C.out)
 go_wp2_with (at_builtin;refine wpList_append_own _ rfl _ _ 35 rfl (aM w A0 n cap Ax m d N false).heap.size 83 i0 (.agg #[.slice none 0 0,.int .i64 0]) 2 32 Tryz.underlying35 O Q x z rfl (by decide) _ _ _ rfl K2.out A2 (nx-(a)) (I-(a)) (ah (xs.drop (a))) rfl K0.out hS3 (bH _) ?qe4 ?qe5 C.out.size ?_)
 case qe4=>simp only [maxLen];omega
 case qe5=>omega
 intro v3 w6 t j _;have T:=aa (ae K.out (gG C.out C.out.size K2.out j));obtain ⟨B,c,K8,hV⟩:=lc (w:=w6) (base:=(aM w A0 n cap Ax m d N false).heap.size) (v:=v3) (zs:=xs.take a ++ ⟨⟨p,N⟩,Ax,d⟩ :: xs.drop (a)) (by rw [Lc.out,HZ.out,List.append_assoc];exact t) (fun y P=>by
  have hB:=T.out
  rcases List.mem_append.1 P with P | P
  ·exact (HG.out.pls y (List.mem_of_mem_take P)).later hB
  rcases List.mem_cons.1 P with rfl | P
  ·exact HG.out.pl.later hB
  exact (HG.out.pls y (List.mem_of_mem_drop P)).later hB)
 have HV:=aa hV;rw [K8,HZ.out];clear t j hV K8;go_wp2_with fail
 go_ret2
 exact ⟨⟨B,c,_,by rw [HZ.out];rfl,HV.out,HLE.out⟩,T.out⟩
theorem Dj (A0:Option Addr) (cap n:Nat) (b o I:Nat) (xs:List EnL) (Ax:Option Addr) (m d:Nat) (p:List Int) (N:Int) (a:Nat) (lf:Bool) (w:World) (hm:p.length=m) (hX:EditCalls (aM w A0 n cap Ax m d N false) A0 cap n (some ⟨b,o,none⟩) xs.length I Ax m d 0 a true lf) (hlf:lf=true) (hlo : ¬ N < -1000000) (hhi : ¬ 1000000<N) (D:EditGood w b o I xs Ax d p a (a+1)) :
  Calls Tryz.prog 23 #[.agg #[.slice A0 n cap],.slice (some ⟨b,o,none⟩) xs.length I,.agg #[.slice Ax m d,.int .i64 N,.bool false]] w fun e w'=>(∃ B c zs,e=.returned (.tuple #[.slice B zs.length c,.int .i64 0])∧fJ w' B c zs∧lE zs=(lE xs).take a ++ ⟨p,N⟩ :: (lE xs).drop (a+1))∧Bl w w':=by
 obtain ⟨i0,O,Q,x,z⟩:=info_parts Tryz.infoEnt;have HX:=aa hX;have K:Hid (Bl w (aM w A0 n cap Ax m d N false)):=dB ..;have h1:=hX.place _ (zS);have HG:=aa D;have HM:=aa hm;obtain ⟨nx,E⟩:=az xs.length;have K5:=D.few;have K4:=D.cap;have hbig:=D.big;have J:=D.fst;have K7:=D.snd;have HL1:Hid ((ah (xs.take a)).length=a*2):=by show _=_;rw [cellsE_len,List.length_take,Nat.min_eq_left J]
 have K0:Hid ((ah (xs.drop (a+1))).length=(nx-(a+1))*2):=by show _=_;rw [cellsE_len,List.length_drop,E]
 have HS1:Hid (∀ w',Bl w w'→∀ k u,(ah (xs.take a))[k]?=some u→w'.cell? ((⟨b,o,none⟩:Addr).add k)=some u):=fun w' F k u l=>by
  rw [aK];rw [←fL,List.getElem?_take] at l
  split at l
  ·exact D.cells w' F k u l
  cases l
 obtain ⟨A2,hA2,HS2⟩:∃ A2:Addr,(if I=a+1 then some (⟨b,o,none⟩:Addr) else some ⟨b,o+(a+1)*2,none⟩)=some A2∧Hid (∀ w',Bl w w'→∀ k u,(ah (xs.drop (a+1)))[k]?=some u→w'.cell? (A2.add k)=some u):=by
  by_cases h:I=a+1
  ·refine ⟨⟨b,o,none⟩,by simp [h],fun w' F k u l=>?_⟩
   have h0:ah (xs.drop (a+1))=[]:=List.eq_nil_of_length_eq_zero (by rw [K0.out];omega)
   rw [h0] at l
   simp at l
  refine ⟨⟨b,o+(a+1)*2,none⟩,by simp [h],fun w' F k u l=>?_⟩
  rw [←eO,List.getElem?_drop] at l;rw [aK,Nat.add_assoc];exact D.cells w' F _ u l
 have HZ:Hid ((xs.take a ++ ⟨⟨p,N⟩,Ax,d⟩ :: xs.drop (a+1)).length=a+1+(nx-(a+1))):=by show _=_;simp only [List.length_append,List.length_cons,List.length_take,List.length_drop,E];omega
 have HLE:Hid (lE (xs.take a ++ ⟨⟨p,N⟩,Ax,d⟩ :: xs.drop (a+1))=(lE xs).take a ++ ⟨p,N⟩ :: (lE xs).drop (a+1)):=by show _=_;simp [lE]
 have Lc:Hid (ah (xs.take a ++ ⟨⟨p,N⟩,Ax,d⟩ :: xs.drop (a+1))=ah (xs.take a) ++ ah [⟨⟨p,N⟩,Ax,d⟩] ++ ah (xs.drop (a+1))):=GX ..;rw [E] at HX K5 K4 J K7 ⊢;have hi':(a:Int)≤(nx:Int):=by omega
 have hj':(((a+1:Nat)):Int)≤(nx:Int):=by omega
 have hn':(nx:Int)≤3000:=by omega
 have hcc:(nx:Int)≤(I:Int):=by omega
 clear hX D hm E;subst hlf
 go_enter Tryz.func23,Tryz.ntmps23
 go_wp2_with fail;refine h1.mono ?_;rintro e w1 ⟨rfl,f⟩;have La:=aa f;have c0:=aC f (by show w.heap.size<_;rw [aq];omega) (gf w A0 n cap Ax m d N false)
 have c1:=(f.cell (p:=⟨w.heap.size+1,0,none⟩) (by show w.heap.size+1<_;rw [aq];omega)).trans (aQ w A0 n cap Ax m d N false).1
 have W:Hid (w1.cell? ⟨w.heap.size+1,1,none⟩=some (.int .i64 N)):=(f.cell (p:=⟨w.heap.size+1,1,none⟩) (by show w.heap.size+1<_;rw [aq];omega)).trans (aQ w A0 n cap Ax m d N false).2.1
 have X:Hid (w1.cell? ⟨w.heap.size+1,2,none⟩=some (.bool false)):=(f.cell (p:=⟨w.heap.size+1,2,none⟩) (by show w.heap.size+1<_;rw [aq];omega)).trans (aQ w A0 n cap Ax m d N false).2.2
 have G:w.heap.size+1<w1.heap.size:=by have:=f.size;rw [aq] at this;omega
 have U:=aa c0;have V:=aa c1;have h2:=HX.out.find rfl w1 f;clear f h1;go_wp2_with fail;refine h2.mono ?_;rintro e w2 ⟨rfl,f⟩;have S:=aa (ae La.out f);have d0:w2.cell? ⟨w.heap.size,0,none⟩=some (.slice A0 n cap):=aC f (by show w.heap.size<_;omega) U.out
 have d1:w2.cell? ⟨w.heap.size+1,0,none⟩=some (.slice Ax m d):=aC f G V.out;have Y:=aa d1;have Z:Hid (w2.cell? ⟨w.heap.size+1,1,none⟩=some (.int .i64 N)):=aC f G W.out;have u9:Hid (w2.cell? ⟨w.heap.size+1,2,none⟩=some (.bool false)):=aC f G X.out;have H:w.heap.size+1<w2.heap.size:=zW G f.size;have h3:=HX.out.leaf rfl w2 S.out;clear f h2 c0 c1 U V W X;go_wp2_with fail;refine h3.mono ?_;rintro e w3 ⟨rfl,f⟩;have A:=aa (ae S.out f);have f1:w3.cell? ⟨w.heap.size+1,0,none⟩=some (.slice Ax m d):=aC f H Y.out;have f2:w3.cell? ⟨w.heap.size+1,1,none⟩=some (.int .i64 N):=aC f H Z.out;have f3:w3.cell? ⟨w.heap.size+1,2,none⟩=some (.bool false):=aC f H u9.out;have hz3:w.heap.size+1<w3.heap.size:=zW H f.size;clear f h3 d0 d1 Y Z u9;have HW3:=aa (ae K.out A.out)
 go_wp2_with (at_builtin;refine wpList_append_own _ rfl _ _ 35 rfl (aM w A0 n cap Ax m d N false).heap.size 83 i0 (.agg #[.slice none 0 0,.int .i64 0]) 2 32 Tryz.underlying35 O Q x z rfl (by decide) _ _ _ rfl (World.ownsRow_nil w3 (aM w A0 n cap Ax m d N false).heap.size 83 2) ⟨b,o,none⟩ a I (ah (xs.take a)) rfl ?qc1 ?qc2 ?qc3 ?qc4 ?qc5 ?qc6 ?_)
 case qc1=>exact HL1.out
 case qc2=>exact HS1.out w3 HW3.out
 case qc3=>exact bH _
 case qc4=>simp only [maxLen];omega
 case qc5=>omega
 case qc6=>exact A.out.size
 intro v1 w4 r g _;have K6:w4.ownsRow (aM w A0 n cap Ax m d N false).heap.size 83 2 v1 a (ah (xs.take a)):=by simpa using r
 have HO1:=aa K6;have q:Below (aM w A0 n cap Ax m d N false).heap.size (aM w A0 n cap Ax m d N false) w4:=gG A.out A.out.size (World.ownsRow_nil w3 (aM w A0 n cap Ax m d N false).heap.size 83 2) g;have Lb:=aa q;have R:w.heap.size+1<(aM w A0 n cap Ax m d N false).heap.size:=by rw [aq];omega
 have g1:w4.cell? ⟨w.heap.size+1,0,none⟩=some (.slice Ax m d):=(q.cell (p:=⟨w.heap.size+1,0,none⟩) R).trans (aQ w A0 n cap Ax m d N false).1;have g2:w4.cell? ⟨w.heap.size+1,1,none⟩=some (.int .i64 N):=(q.cell (p:=⟨w.heap.size+1,1,none⟩) R).trans (aQ w A0 n cap Ax m d N false).2.1;have g3:w4.cell? ⟨w.heap.size+1,2,none⟩=some (.bool false):=(q.cell (p:=⟨w.heap.size+1,2,none⟩) R).trans (aQ w A0 n cap Ax m d N false).2.2;clear r g K6 f1 f2 f3 q;have M:=dh w4 Ax m d N 83;have K3:Hid ((dt w4 Ax m d N 83).ownsRow (aM w A0 n cap Ax m d N false).heap.size 83 2 v1 a (ah (xs.take a))):=an HO1.out M;have L:=aa (ae Lb.out M);have K9:Hid (∀ k u,(ah [⟨⟨p,N⟩,Ax,d⟩])[k]?=some u→(dt w4 Ax m d N 83).cell? ((⟨w4.heap.size,0,none⟩:Addr).add k)=some u):=fun k u l=>by
  have hh:(dt w4 Ax m d N 83).heap[w4.heap.size]?=some (.cells #[.slice Ax m d,.int .i64 N] 83 (0,0)):=heap_alloc_new w4 _;rw [aK,Nat.zero_add,Lib.cell_of_heap hh]
  simpa [ah,HM.out] using l
 clear M
 go_wp2_with (at_builtin;refine wpList_append_own _ rfl _ _ 35 rfl (aM w A0 n cap Ax m d N false).heap.size 83 i0 (.agg #[.slice none 0 0,.int .i64 0]) 2 32 Tryz.underlying35 O Q x z rfl (by decide) _ _ _ rfl K3.out ⟨w4.heap.size,0,none⟩ 1 1 (ah [⟨⟨p,N⟩,Ax,d⟩]) rfl rfl K9.out (bH _) ?qd4 ?qd5 L.out.size ?_)
 case qd4=>simp only [maxLen];omega
 case qd5=>omega
 intro v2 w5 s i _;have K2:=aa s;have C:Hid (Below (aM w A0 n cap Ax m d N false).heap.size (aM w A0 n cap Ax m d N false) w5):=gG L.out L.out.size K3.out i;clear s i g1 g2 g3;have hwj:IntKind.i64.wrap ((a:Int)+1)=(a:Int)+1:=by rw [IntKind.wrap_i64];omega
 have htn:((a:Int)+1).toNat=a+1:=by omega
 have hS3:=HS2.out w5 (ae K.out C.out)
 go_wp2_with (at_builtin;refine wpList_append_own _ rfl _ _ 35 rfl (aM w A0 n cap Ax m d N false).heap.size 83 i0 (.agg #[.slice none 0 0,.int .i64 0]) 2 32 Tryz.underlying35 O Q x z rfl (by decide) _ _ _ rfl K2.out A2 (nx-(a+1)) (I-(a+1)) (ah (xs.drop (a+1))) rfl K0.out hS3 (bH _) ?qe4 ?qe5 C.out.size ?_)
 case qe4=>simp only [maxLen];omega
 case qe5=>omega
 intro v3 w6 t j _;have T:=aa (ae K.out (gG C.out C.out.size K2.out j));obtain ⟨B,c,K8,hV⟩:=lc (w:=w6) (base:=(aM w A0 n cap Ax m d N false).heap.size) (v:=v3) (zs:=xs.take a ++ ⟨⟨p,N⟩,Ax,d⟩ :: xs.drop (a+1)) (by rw [Lc.out,HZ.out,List.append_assoc,show a+1+(nx-(a+1))=nx by omega];exact t) (fun y P=>by
  have hB:=T.out
  rcases List.mem_append.1 P with P | P
  ·exact (HG.out.pls y (List.mem_of_mem_take P)).later hB
  rcases List.mem_cons.1 P with rfl | P
  ·exact HG.out.pl.later hB
  exact (HG.out.pls y (List.mem_of_mem_drop P)).later hB)
 have HV:=aa hV;rw [K8,HZ.out];clear t j hV K8;go_wp2_with fail
 go_ret2
 exact ⟨⟨B,c,_,by rw [HZ.out];rfl,HV.out,HLE.out⟩,T.out⟩
theorem Dg (A0:Option Addr) (cap n:Nat) (b o E:Nat) (xs:List EnL) (Ax:Option Addr) (m d:Nat) (p:List Int) (N:Int) (a:Nat) (lf:Bool) (w:World) (hm:p.length=m) (hX:EditCalls (aM w A0 n cap Ax m d N true) A0 cap n (some ⟨b,o,none⟩) xs.length E Ax m d 0 a true lf) (x:EditGood w b o E xs Ax d p a (a+1)) :
  Calls Tryz.prog 23 #[.agg #[.slice A0 n cap],.slice (some ⟨b,o,none⟩) xs.length E,.agg #[.slice Ax m d,.int .i64 N,.bool true]] w fun e w'=>(∃ B c zs,e=.returned (.tuple #[.slice B zs.length c,.int .i64 0])∧fJ w' B c zs∧lE zs=(lE xs).take a ++ (lE xs).drop (a+1))∧Bl w w':=by
 obtain ⟨i0,Y,hz0,G,H⟩:=info_parts Tryz.infoEnt;have HX:=aa hX;have I:Hid (Bl w (aM w A0 n cap Ax m d N true)):=dB ..;have h1:=hX.place _ (zS);have HG:=aa x;have HM:=aa hm;obtain ⟨nx,z⟩:=az xs.length;have X:=x.few;have W:=x.cap;have hbig:=x.big;have F:=x.fst;have u9:=x.snd;have HL1:Hid ((ah (xs.take a)).length=a*2):=by show _=_;rw [cellsE_len,List.length_take,Nat.min_eq_left F]
 have U:Hid ((ah (xs.drop (a+1))).length=(nx-(a+1))*2):=by show _=_;rw [cellsE_len,List.length_drop,z]
 have HS1:Hid (∀ w',Bl w w'→∀ k u,(ah (xs.take a))[k]?=some u→w'.cell? ((⟨b,o,none⟩:Addr).add k)=some u):=fun w' A k u r=>by
  rw [aK];rw [←fL,List.getElem?_take] at r
  split at r
  ·exact x.cells w' A k u r
  cases r
 obtain ⟨A2,hA2,HS2⟩:∃ A2:Addr,(if E=a+1 then some (⟨b,o,none⟩:Addr) else some ⟨b,o+(a+1)*2,none⟩)=some A2∧Hid (∀ w',Bl w w'→∀ k u,(ah (xs.drop (a+1)))[k]?=some u→w'.cell? (A2.add k)=some u):=by
  by_cases h:E=a+1
  ·refine ⟨⟨b,o,none⟩,by simp [h],fun w' A k u r=>?_⟩
   have h0:ah (xs.drop (a+1))=[]:=List.eq_nil_of_length_eq_zero (by rw [U.out];omega)
   rw [h0] at r
   simp at r
  refine ⟨⟨b,o+(a+1)*2,none⟩,by simp [h],fun w' A k u r=>?_⟩
  rw [←eO,List.getElem?_drop] at r;rw [aK,Nat.add_assoc];exact x.cells w' A _ u r
 have HZ:Hid ((xs.take a ++ xs.drop (a+1)).length=a+(nx-(a+1))):=by show _=_;simp only [List.length_append,List.length_take,List.length_drop,z];omega
 have HLE:Hid (lE (xs.take a ++ xs.drop (a+1))=(lE xs).take a ++ (lE xs).drop (a+1)):=by show _=_;simp [lE]
 have HCZ:Hid (ah (xs.take a ++ xs.drop (a+1))=ah (xs.take a) ++ ah (xs.drop (a+1))):=cellsE_append ..;rw [z] at HX X W F u9 ⊢;have hi':(a:Int)≤(nx:Int):=by omega
 have hj':(((a+1:Nat)):Int)≤(nx:Int):=by omega
 have hn':(nx:Int)≤3000:=by omega
 have hcc:(nx:Int)≤(E:Int):=by omega
 clear hX x hm z
 go_enter Tryz.func23,Tryz.ntmps23
 go_wp2_with fail;refine h1.mono ?_;rintro e w1 ⟨rfl,f⟩;have HB1:=aa f;have c0:=aC f (by show w.heap.size<_;rw [aq];omega) (gf w A0 n cap Ax m d N true)
 have c1:=(f.cell (p:=⟨w.heap.size+1,0,none⟩) (by show w.heap.size+1<_;rw [aq];omega)).trans (aQ w A0 n cap Ax m d N true).1
 have P:Hid (w1.cell? ⟨w.heap.size+1,1,none⟩=some (.int .i64 N)):=(f.cell (p:=⟨w.heap.size+1,1,none⟩) (by show w.heap.size+1<_;rw [aq];omega)).trans (aQ w A0 n cap Ax m d N true).2.1
 have Q:Hid (w1.cell? ⟨w.heap.size+1,2,none⟩=some (.bool true)):=(f.cell (p:=⟨w.heap.size+1,2,none⟩) (by show w.heap.size+1<_;rw [aq];omega)).trans (aQ w A0 n cap Ax m d N true).2.2
 have C:w.heap.size+1<w1.heap.size:=by have:=f.size;rw [aq] at this;omega
 have M:=aa c0;have O:=aa c1;have h2:=HX.out.find rfl w1 f;clear f h1;go_wp2_with fail;refine h2.mono ?_;rintro e w2 ⟨rfl,f⟩;have K:=aa (ae HB1.out f);have d0:w2.cell? ⟨w.heap.size,0,none⟩=some (.slice A0 n cap):=aC f (by show w.heap.size<_;omega) M.out
 have d1:w2.cell? ⟨w.heap.size+1,0,none⟩=some (.slice Ax m d):=aC f C O.out;have R:=aa d1;have S:Hid (w2.cell? ⟨w.heap.size+1,1,none⟩=some (.int .i64 N)):=aC f C P.out;have T:Hid (w2.cell? ⟨w.heap.size+1,2,none⟩=some (.bool true)):=aC f C Q.out;have D:w.heap.size+1<w2.heap.size:=zW C f.size;have h3:=HX.out.leaf rfl w2 K.out;clear f h2 c0 c1 M O P Q;go_wp2_with fail;refine h3.mono ?_;rintro e w3 ⟨rfl,f⟩;have s:=aa (ae K.out f);have f1:w3.cell? ⟨w.heap.size+1,0,none⟩=some (.slice Ax m d):=aC f D R.out;have f2:w3.cell? ⟨w.heap.size+1,1,none⟩=some (.int .i64 N):=aC f D S.out;have f3:w3.cell? ⟨w.heap.size+1,2,none⟩=some (.bool true):=aC f D T.out;have hz3:w.heap.size+1<w3.heap.size:=zW D f.size;clear f h3 d0 d1 R S T;have HW3:=aa (ae I.out s.out)
 go_wp2_with (at_builtin;refine wpList_append_own _ rfl _ _ 35 rfl (aM w A0 n cap Ax m d N true).heap.size 83 i0 (.agg #[.slice none 0 0,.int .i64 0]) 2 32 Tryz.underlying35 Y hz0 G H rfl (by decide) _ _ _ rfl (World.ownsRow_nil w3 (aM w A0 n cap Ax m d N true).heap.size 83 2) ⟨b,o,none⟩ a E (ah (xs.take a)) rfl ?qc1 ?qc2 ?qc3 ?qc4 ?qc5 ?qc6 ?_)
 case qc1=>exact HL1.out
 case qc2=>exact HS1.out w3 HW3.out
 case qc3=>exact bH _
 case qc4=>simp only [maxLen];omega
 case qc5=>omega
 case qc6=>exact s.out.size
 intro v1 w4 l g _;have Z:w4.ownsRow (aM w A0 n cap Ax m d N true).heap.size 83 2 v1 a (ah (xs.take a)):=by simpa using l
 have V:=aa Z;have j:Below (aM w A0 n cap Ax m d N true).heap.size (aM w A0 n cap Ax m d N true) w4:=gG s.out s.out.size (World.ownsRow_nil w3 (aM w A0 n cap Ax m d N true).heap.size 83 2) g;have t:=aa j;have J:w.heap.size+1<(aM w A0 n cap Ax m d N true).heap.size:=by rw [aq];omega
 have g1:w4.cell? ⟨w.heap.size+1,0,none⟩=some (.slice Ax m d):=(j.cell (p:=⟨w.heap.size+1,0,none⟩) J).trans (aQ w A0 n cap Ax m d N true).1;have g2:w4.cell? ⟨w.heap.size+1,1,none⟩=some (.int .i64 N):=(j.cell (p:=⟨w.heap.size+1,1,none⟩) J).trans (aQ w A0 n cap Ax m d N true).2.1;have g3:w4.cell? ⟨w.heap.size+1,2,none⟩=some (.bool true):=(j.cell (p:=⟨w.heap.size+1,2,none⟩) J).trans (aQ w A0 n cap Ax m d N true).2.2;clear l g Z f1 f2 f3 j;have hwj:IntKind.i64.wrap ((a:Int)+1)=(a:Int)+1:=by rw [IntKind.wrap_i64];omega
 have htn:((a:Int)+1).toNat=a+1:=by omega
 have hS3:=HS2.out w4 (ae I.out t.out)
 go_wp2_with (at_builtin;refine wpList_append_own _ rfl _ _ 35 rfl (aM w A0 n cap Ax m d N true).heap.size 83 i0 (.agg #[.slice none 0 0,.int .i64 0]) 2 32 Tryz.underlying35 Y hz0 G H rfl (by decide) _ _ _ rfl V.out A2 (nx-(a+1)) (E-(a+1)) (ah (xs.drop (a+1))) rfl U.out hS3 (bH _) ?qe4 ?qe5 t.out.size ?_)
 case qe4=>simp only [maxLen];omega
 case qe5=>omega
 intro v3 w6 q i _;have L:=aa (ae I.out (gG t.out t.out.size V.out i));obtain ⟨B,c,K0,hV⟩:=lc (w:=w6) (base:=(aM w A0 n cap Ax m d N true).heap.size) (v:=v3) (zs:=xs.take a ++ xs.drop (a+1)) (by rw [HCZ.out,HZ.out];exact q) (fun y hy=>by
  have hB:=L.out
  rcases List.mem_append.1 hy with hy | hy
  ·exact (HG.out.pls y (List.mem_of_mem_take hy)).later hB
  exact (HG.out.pls y (List.mem_of_mem_drop hy)).later hB)
 have HV:=aa hV;rw [K0,HZ.out];clear q i hV K0;go_wp2_with fail
 go_ret2
 exact ⟨⟨B,c,_,by rw [HZ.out];rfl,HV.out,HLE.out⟩,L.out⟩
end Go.Proofs.YtohgnbgamfepoaaGreatDoor
