/- What Dirty of package -/
import Derived.Test.YtohgnbgamfepoaaGreatDoorJHBL
import Derived.Test.YtohgnbgamfepoaaGreatDoorJHBP
namespace Go.Proofs.YtohgnbgamfepoaaGreatDoor
open ChangeShapes WideShapes ChangeAt RowKit
set_option maxRecDepth 99999
set_option maxHeartbeats 0
theorem Fx (A0:Option Addr) (cap n:Nat) (D:Nat→Dm) (A:Nat→Option Addr) (C:Nat→Nat) (Aq:Option Addr) (cq:Nat) (xs:List PL) (w:World) (hM:aW w A0 cap n D A C) (hX:rZ w Aq cq xs) (hl:xs.length≤200) :
  Calls Tryz.prog 54 #[.agg #[.slice A0 n cap],.slice Aq xs.length cq] w fun e w'=>(∃ A' t,e=.returned (.tuple #[.slice A' (D3 D n (lP xs)).length t,errV (wf D n (lP xs))])∧aR w' A' t (D3 D n (lP xs)))∧Bl w w':=by
 have p:=ao w A0 n cap 24;have hS:=av w A0 n cap 24;have hA:=aH w A0 n cap 24;obtain ⟨W,hW⟩:=az (ax w A0 n cap 24);rw [hW] at p hS hA;unfold ax at hW;have HB0:=aa p;have hsz:w.heap.size<W.heap.size:=by omega
 have HA:=aa hA
 by_cases Y:(aO D n).2.2=0
 case neg =>
  have V:=sG A0 cap n D A C W Y (hM.later p);have r:wf D n (lP xs)=(aO D n).2.2:=by unfold wf;rw [if_pos Y]
  have H:Hid (D3 D n (lP xs)=[]):=by show _=_;unfold D3;rw [if_neg (by rw [r];exact Y)]
  have k:Hid (errV (wf D n (lP xs))=.iface 63 (.int .i64 (aO D n).2.2)):=by show _=_;rw [r,ak Y]
  rw [ak Y] at V;generalize (aO D n).2.2=z at V k;generalize xs.length=xl;clear hM hX p Y hS r hl
  go_enter Tryz.func54,Tryz.ntmps54
  go_wp2_with fail;refine V.mono ?_;rintro e w1 ⟨rfl,d⟩;have HB1:=aa (ae HB0.out d);clear d V;go_wp2_with fail;go_returns;exact ⟨⟨none,0,by rw [H.out,k.out];rfl,by rw [H.out];exact aR.nil _ _ _ (by omega)⟩,ae HB1.out (by go_grown)⟩
 obtain ⟨hE,hR⟩:=ex Y;have V:=nL A0 cap n D A C W hE hR (hM.later p);have B:wf D n (lP xs)=wT D n (lP xs):=by unfold wf;rw [if_neg (by simpa using Y)]
 have i:Hid (∀ w',Bl w w'→Calls Tryz.prog 94 #[.agg #[.slice A0 n cap],.slice Aq xs.length cq] w' fun e w''=>(∃ v,e=.returned (.tuple #[v,errV (shTo D n (lP xs))])∧w''.ownsRow w'.heap.size 3 1 v (CF D n (lP xs)).length (aE (CF D n (lP xs))))∧Bl w' w''):=fun w' hB=>uT A0 cap n D A C Aq cq xs w' hE (hM.later hB) (hX.later hB) hl
 have J:Hid (∀ w1,Bl W w1→∀ (v:Value) (T:Nat),(w1.alloc (.cells #[v] T)).cell? ⟨w.heap.size,0,none⟩=some (.slice A0 n cap)∧w.heap.size<(w1.alloc (.cells #[v] T)).heap.size∧Bl w (w1.alloc (.cells #[v] T))):=fun w1 d v T=>by
  have l:Bl w1 (w1.alloc (.cells #[v] T)):=by go_grown
  have hb:=ae d l;exact ⟨aC hb hsz HA.out,zW hsz hb.size,ae HB0.out hb⟩
 by_cases G:shTo D n (lP xs)=0
 case neg =>
  have r:wf D n (lP xs)=shTo D n (lP xs):=by rw [B];unfold wT;rw [if_pos G]
  have H:Hid (D3 D n (lP xs)=[]):=by show _=_;unfold D3;rw [if_neg (by rw [r];exact G)]
  have k:Hid (errV (wf D n (lP xs))=.iface 63 (.int .i64 (shTo D n (lP xs)))):=by show _=_;rw [r,ak G]
  have F:CF D n (lP xs)=[]:=by unfold CF;rw [if_neg G]
  rw [ak G,F] at i;generalize shTo D n (lP xs)=z at i k;generalize xs.length=xl at i ⊢;clear hM hX p Y hS r hl hE hR B G F
  go_enter Tryz.func54,Tryz.ntmps54
  go_wp2_with fail;refine V.mono ?_;rintro e w1 ⟨⟨u,g,X,rfl,-,-,-⟩,d⟩;obtain ⟨x1,x2,x3⟩:=J.out w1 d (.pointer (some ⟨u,0,none⟩)) 88;obtain ⟨w2,f⟩:=az (w1.alloc (.cells #[.pointer (some ⟨u,0,none⟩)] 88));rw [f] at x1 x2 x3;have o:=aa x3;clear d V hA hW x3;go_wp2_with fail;refine (i.out w2 o.out).mono ?_;rintro e w3 ⟨⟨v,rfl,hO⟩,c⟩;have I:=aa (ae o.out c);obtain ⟨AO,lO,cO,hv⟩:∃ AO lO cO,v=.slice AO lO cO:=by
   rcases hO.2 with ⟨h1,h2⟩ | ⟨g,cap,cur,h1,-⟩
   ·exact ⟨none,0,0,h1⟩
   exact ⟨_,_,_,h1⟩
  subst hv;clear c hO;go_wp2_with fail;go_returns;exact ⟨⟨none,0,by rw [H.out,k.out];rfl,by rw [H.out];exact aR.nil _ _ _ (by omega)⟩,I.out⟩
 obtain ⟨U,Q⟩:=Jc hE G;have F:CF D n (lP xs)=k7 D n (lP xs):=by unfold CF;rw [if_pos G]
 have S:(k7 D n (lP xs)).length=xs.length:=by unfold k7 lP;rw [List.length_map,List.length_map]
 rw [G,F,errV_zero] at i;have hp3:=(au hE).2.2.1;have K:Hid (∀ q g X b w' A' t,cJ w' q g n D X→w'.cell? ⟨b,0,none⟩=some (.pointer (some ⟨q,0,none⟩))→b<w'.heap.size→aR w' A' t (k7 D n (lP xs))→Rt 95 #[.slice A' (k7 D n (lP xs)).length t,.func (.func 96) #[] #[.pointer (some ⟨b,0,none⟩)]] w' (.bool ((lP xs).any fun q => !leafV D n q))):=fun q g X b w' A' t hA hc hb hI=>by
  rw [←Q];refine xu 96 #[.pointer (some ⟨b,0,none⟩)] (fun z => !leafV D n (aj D n z.toNat)) wX A' t (k7 D n (lP xs)) w' (by omega) hI.at fun z w2 r M=>?_
  obtain ⟨j,rfl,hj⟩:=U z r;rw [Int.toNat_natCast];exact wQ q g n b D X j w2 hE hj (hA.later M) (aC M hb hc)
 have HUs:Hid (∀ q g X w',cJ w' q g n D X→Calls Tryz.prog 98 #[.pointer (some ⟨q,0,none⟩)] w' fun e w''=>(∃ gU,e=.returned (.slice (some ⟨gU,0,none⟩) (prodN D n) (prodN D n))∧D2 w'' gU (prodN D n) (prodN D n) (rowsL D n) w')∧Bl w' w''):=fun q g X w' hA=>by
  refine (rT q g n D X w' hR hE hA).mono ?_;rintro e w'' ⟨gU,rfl,hU⟩;exact ⟨⟨gU,rfl,hU⟩,hU.choose_spec.2⟩
 have s:Hid (∀ gU w0 w1 b w' A' t,D2 w1 gU (prodN D n) (prodN D n) (rowsL D n) w0→Bl w1 w'→w'.cell? ⟨b,0,none⟩=some (.slice (some ⟨gU,0,none⟩) (prodN D n) (prodN D n))→b<w'.heap.size→aR w' A' t (k7 D n (lP xs))→Calls Tryz.prog 99 #[.slice A' (k7 D n (lP xs)).length t,.func (.func 100) #[] #[.pointer (some ⟨b,0,none⟩)]] w' fun e w''=>(∃ A' t,e=.returned (.tuple #[.slice A' (drtL D n (k7 D n (lP xs))).length t,.nilIface])∧aR w'' A' t (drtL D n (k7 D n (lP xs))))∧Bl w' w''):=fun gU w0 w1 b w' A' t hU hB1 hc hb hI=>by
  obtain ⟨UV,hU,-⟩:=hU;have h:=xS 100 #[] #[.pointer (some ⟨b,0,none⟩)] (fun y=>bE (rowsL D n) y (prodN D n)) (prodN D n) wY A' t (k7 D n (lP xs)) w' hp3 (by omega) hI U (fun y _=>GL y) (fun y hy=>by have:=tp (rowsL D n) y (prodN D n);omega) fun y w2 hy M=>by
   have hU2:=(hU.later hB1).later M;refine (wR b gU (prodN D n) y (UV y) w2 hp3 hy (aC M hb hc) (hU2.hU.cell hy)).mono ?_;rintro e w3 ⟨rfl,c⟩;obtain ⟨A2,c2,hv,hI2⟩:=bQ (hU2.own y hy);refine ⟨⟨A2,c2,by rw [hv],hI2.later c,fun a ha=>Or.inl ?_⟩,c⟩
   exact (bP ((hU.later hB1).own y hy) (by rw [hv,ha];rfl)).2.1
  refine Calls.mono h ?_;rintro e w'' ⟨⟨v,L,rfl,hO,hLt,hLm⟩,l⟩;obtain ⟨A2,c2,rfl,hI2⟩:=bQ hO;rw [←ES hR hE U hLt hLm];exact ⟨⟨A2,c2,rfl,hI2⟩,l⟩
 obtain ⟨LN,O⟩:=az (k7 D n (lP xs));have HLN:=aa O;rw [O] at i K s S;obtain ⟨N,hN⟩:=az (prodN D n);rw [hN] at HUs s hp3;have hNI:(N:Int)≤3000:=by omega
 by_cases E:((lP xs).any fun q => !leafV D n q)=true
 case pos =>
  have r:wf D n (lP xs)=6:=by rw [B];unfold wT;rw [if_neg (by simpa using G),if_pos E]
  have H:Hid (D3 D n (lP xs)=[]):=by show _=_;unfold D3;rw [if_neg (by rw [r];decide)]
  have k:Hid (errV (wf D n (lP xs))=.iface 63 (.int .i64 6)):=by show _=_;rw [r,ak (by decide)]
  rw [E] at K;generalize rowsL D n=Nn at HUs s;generalize xs.length=xl at i hl S ⊢;have hxl:LN.length≤3000:=by omega
  clear hM hX p Y hS r hE hR B G F Q U E O hN s S
  go_enter Tryz.func54,Tryz.ntmps54
  go_wp2_with fail;refine V.mono ?_;rintro e w1 ⟨⟨u,g,X,rfl,-,-,P⟩,d⟩;obtain ⟨x1,x2,x3⟩:=J.out w1 d (.pointer (some ⟨u,0,none⟩)) 88;obtain ⟨w2,f⟩:=az (w1.alloc (.cells #[.pointer (some ⟨u,0,none⟩)] 88));have l:Bl w1 w2:=by rw [←f];go_grown
  have c2:w2.cell? ⟨w1.heap.size,0,none⟩=some (.pointer (some ⟨u,0,none⟩)):=by rw [←f];exact (Lib.cell_of_heap (heap_alloc_new w1 _) 0).trans rfl
  have Z:w1.heap.size<w2.heap.size:=by rw [←f];simp
  rw [f] at x1 x2 x3;have o:=aa x3;have HP2:=aa (P.later l);have HC2:=aa c2;clear d V hA hW x3 P l;go_wp2_with fail;refine (i.out w2 o.out).mono ?_;rintro e w3 ⟨⟨v,rfl,hO⟩,c⟩;obtain ⟨A3,c3,hv,x⟩:=bQ hO;have I:=aa (ae o.out c);have R:=K.out u g X w1.heap.size w3 A3 c3 (HP2.out.later c) (aC c Z HC2.out) (zW Z c.size) x;subst hv;clear c hO x f c2;go_wp2_with fail;refine R.mono ?_;rintro e w4 ⟨rfl,m⟩;have HB4:=aa (ae I.out m);clear m R;go_wp2_with fail;go_returns;exact ⟨⟨none,0,by rw [H.out,k.out];rfl,by rw [H.out];exact aR.nil _ _ _ (by omega)⟩,HB4.out⟩
 have hlf':((lP xs).any fun q => !leafV D n q)=false:=by simpa using E
 have r:wf D n (lP xs)=0:=by rw [B];unfold wT;rw [if_neg (by simpa using G),if_neg E]
 have H:Hid (D3 D n (lP xs)=drtL D n LN):=by show _=_;unfold D3;rw [if_pos r,O]
 have k:Hid (errV (wf D n (lP xs))=.nilIface):=by show _=_;rw [r,errV_zero]
 rw [hlf'] at K;generalize rowsL D n=Nn at HUs s;generalize xs.length=xl at i hl S ⊢;have hxl:LN.length≤3000:=by omega
 generalize drtL D n LN=DL at H s;clear hM hX p Y hS r hE hR B G F Q U E hlf' O hN S
 go_enter Tryz.func54,Tryz.ntmps54
 go_wp2_with fail;refine V.mono ?_;rintro e w1 ⟨⟨u,g,X,rfl,-,-,P⟩,d⟩;obtain ⟨x1,x2,x3⟩:=J.out w1 d (.pointer (some ⟨u,0,none⟩)) 88;obtain ⟨w2,f⟩:=az (w1.alloc (.cells #[.pointer (some ⟨u,0,none⟩)] 88));have l:Bl w1 w2:=by rw [←f];go_grown
 have c2:w2.cell? ⟨w1.heap.size,0,none⟩=some (.pointer (some ⟨u,0,none⟩)):=by rw [←f];exact (Lib.cell_of_heap (heap_alloc_new w1 _) 0).trans rfl
 have Z:w1.heap.size<w2.heap.size:=by rw [←f];simp
 rw [f] at x1 x2 x3;have o:=aa x3;have HP2:=aa (P.later l);have HC2:=aa c2;clear d V hA hW x3 P l;go_wp2_with fail;refine (i.out w2 o.out).mono ?_;rintro e w3 ⟨⟨v,rfl,hO⟩,c⟩;obtain ⟨A3,c3,hv,x⟩:=bQ hO;have I:=aa (ae o.out c);have HP3:=aa (HP2.out.later c);have HC3:Hid (w3.cell? ⟨w1.heap.size,0,none⟩=some (.pointer (some ⟨u,0,none⟩))):=aC c Z HC2.out;have hs3:w1.heap.size<w3.heap.size:=zW Z c.size;have R:=K.out u g X w1.heap.size w3 A3 c3 HP3.out HC3.out hs3 x;have HI3:=aa x;subst hv;clear c hO x f c2;go_wp2_with fail;refine R.mono ?_;rintro e w4 ⟨rfl,m⟩;have HB4:=aa (ae I.out m);have c4:w4.cell? ⟨w1.heap.size,0,none⟩=some (.pointer (some ⟨u,0,none⟩)):=aC m hs3 HC3.out;have hs4:w1.heap.size<w4.heap.size:=zW hs3 m.size;have hus:=HUs.out u g X w4 (HP3.out.later m);have HI4:=aa (HI3.out.later m);clear m R;go_wp2_with fail;refine hus.mono ?_;rintro e w5 ⟨⟨gU,rfl,hU5⟩,hb5⟩;obtain ⟨w6,hw6⟩:=az (w5.alloc (.cells #[.slice (some ⟨gU,0,none⟩) N N] 71));have hb6:Bl w5 w6:=by rw [←hw6];go_grown
 have c6:w6.cell? ⟨w5.heap.size,0,none⟩=some (.slice (some ⟨gU,0,none⟩) N N):=by rw [←hw6];exact (Lib.cell_of_heap (heap_alloc_new w5 _) 0).trans rfl
 have hs6:w5.heap.size<w6.heap.size:=by rw [←hw6];simp
 have HB6:=aa (ae HB4.out (ae hb5 hb6));have hre:=s.out gU w4 w5 w5.heap.size w6 A3 c3 hU5 hb6 c6 hs6 (HI4.out.later (ae hb5 hb6));clear hU5 hb5 hb6 hus c4 c6;go_wp2_with fail;refine hre.mono ?_;rintro e w7 ⟨⟨A7,c7,rfl,hI7⟩,hb7⟩;have HI7:=aa hI7;have HB7:=aa (ae HB6.out hb7);clear hI7 hb7 hre;go_wp2_with fail;go_returns;exact ⟨⟨A7,c7,by rw [H.out,k.out];rfl,by rw [H.out];exact HI7.out⟩,HB7.out⟩
theorem Di (A0:Option Addr) (cap n:Nat) (Ax:Option Addr) (m a:Nat) (p:List Int) (N:Int) (lf:Bool) (w:World) (hm:p.length=m) (hP:aZ w Ax a p) (S:EditCalls (aM w A0 n cap Ax m a N false) A0 cap n none 0 0 Ax m a 0 0 false lf) (T:lf=true) (hlo : ¬ N < -1000000) (hhi : ¬ 1000000<N) :
  Calls Tryz.prog 23 #[.agg #[.slice A0 n cap],.slice none 0 0,.agg #[.slice Ax m a,.int .i64 N,.bool false]] w fun e w'=>(∃ B c zs,e=.returned (.tuple #[.slice B zs.length c,.int .i64 0])∧fJ w' B c zs∧lE zs=[⟨p,N⟩])∧Bl w w':=by
 obtain ⟨i0,F,W,J,K⟩:=info_parts Tryz.infoEnt;have X:=aa S;have M:Hid (Bl w (aM w A0 n cap Ax m a N false)):=dB ..;have Z:=S.place _ (zS);have HM:=aa hm;have HP:=aa hP;clear S hm hP;subst T
 go_enter Tryz.func23,Tryz.ntmps23
 go_wp2_with fail;refine Z.mono ?_;rintro e w1 ⟨rfl,b⟩;have O:=aa b;have c0:=aC b (by show w.heap.size<_;rw [aq];omega) (gf w A0 n cap Ax m a N false)
 have c1:=(b.cell (p:=⟨w.heap.size+1,0,none⟩) (by show w.heap.size+1<_;rw [aq];omega)).trans (aQ w A0 n cap Ax m a N false).1
 have t:Hid (w1.cell? ⟨w.heap.size+1,1,none⟩=some (.int .i64 N)):=(b.cell (p:=⟨w.heap.size+1,1,none⟩) (by show w.heap.size+1<_;rw [aq];omega)).trans (aQ w A0 n cap Ax m a N false).2.1
 have v:Hid (w1.cell? ⟨w.heap.size+1,2,none⟩=some (.bool false)):=(b.cell (p:=⟨w.heap.size+1,2,none⟩) (by show w.heap.size+1<_;rw [aq];omega)).trans (aQ w A0 n cap Ax m a N false).2.2
 have h:w.heap.size+1<w1.heap.size:=by have:=b.size;rw [aq] at this;omega
 have r:=aa c0;have s:=aa c1;have h2:=X.out.find rfl w1 b;clear b Z;go_wp2_with fail;refine h2.mono ?_;rintro e w2 ⟨rfl,b⟩;have o:=aa (ae O.out b);have d0:w2.cell? ⟨w.heap.size,0,none⟩=some (.slice A0 n cap):=aC b (by show w.heap.size<_;omega) r.out
 have Y:w2.cell? ⟨w.heap.size+1,0,none⟩=some (.slice Ax m a):=aC b h s.out;have x:=aa Y;have z:Hid (w2.cell? ⟨w.heap.size+1,1,none⟩=some (.int .i64 N)):=aC b h t.out;have A:Hid (w2.cell? ⟨w.heap.size+1,2,none⟩=some (.bool false)):=aC b h v.out;have i:w.heap.size+1<w2.heap.size:=zW h b.size;have h3:=X.out.leaf rfl w2 o.out;clear b h2 c0 c1 r s t v;go_wp2_with fail;refine h3.mono ?_;rintro e w3 ⟨rfl,b⟩;have P:=aa (ae o.out b);have f1:w3.cell? ⟨w.heap.size+1,0,none⟩=some (.slice Ax m a):=aC b i x.out;have f2:w3.cell? ⟨w.heap.size+1,1,none⟩=some (.int .i64 N):=aC b i z.out;have f3:w3.cell? ⟨w.heap.size+1,2,none⟩=some (.bool false):=aC b i A.out;have hz3:w.heap.size+1<w3.heap.size:=zW i b.size;clear b h3 d0 Y x z A;obtain ⟨w4,U⟩:∃ w4:World,w4=w3:=⟨_,rfl⟩;subst U;have f:=P.out;have l:w.heap.size+1<(aM w A0 n cap Ax m a N false).heap.size:=by rw [aq];omega
 have Q:=aa f;have g1:w4.cell? ⟨w.heap.size+1,0,none⟩=some (.slice Ax m a):=(f.cell (p:=⟨w.heap.size+1,0,none⟩) l).trans (aQ w A0 n cap Ax m a N false).1;have g2:w4.cell? ⟨w.heap.size+1,1,none⟩=some (.int .i64 N):=(f.cell (p:=⟨w.heap.size+1,1,none⟩) l).trans (aQ w A0 n cap Ax m a N false).2.1;have g3:w4.cell? ⟨w.heap.size+1,2,none⟩=some (.bool false):=(f.cell (p:=⟨w.heap.size+1,2,none⟩) l).trans (aQ w A0 n cap Ax m a N false).2.2;clear f f1 f2 f3;have E:=dh w4 Ax m a N 83;have D:Hid ((dt w4 Ax m a N 83).ownsRow (aM w A0 n cap Ax m a N false).heap.size 83 2 (.slice none 0 0) 0 []):=World.ownsRow_nil _ _ _ _;have j:=aa (ae Q.out E);have L:Hid (∀ k u,(ah [⟨⟨p,N⟩,Ax,a⟩])[k]?=some u→(dt w4 Ax m a N 83).cell? ((⟨w4.heap.size,0,none⟩:Addr).add k)=some u):=fun k u hk=>by
  have hh:(dt w4 Ax m a N 83).heap[w4.heap.size]?=some (.cells #[.slice Ax m a,.int .i64 N] 83 (0,0)):=heap_alloc_new w4 _;rw [aK,Nat.zero_add,Lib.cell_of_heap hh]
  simpa [ah,HM.out] using hk
 clear E
 go_wp2_with (at_builtin;refine wpList_append_own _ rfl _ _ 35 rfl (aM w A0 n cap Ax m a N false).heap.size 83 i0 (.agg #[.slice none 0 0,.int .i64 0]) 2 32 Tryz.underlying35 F W J K rfl (by decide) _ _ _ rfl D.out ⟨w4.heap.size,0,none⟩ 1 1 (ah [⟨⟨p,N⟩,Ax,a⟩]) rfl rfl L.out (bH _) ?qd4 ?qd5 j.out.size ?_)
 case qd4=>simp only [maxLen];omega
 case qd5=>omega
 intro v2 w5 g d _;have G:w5.ownsRow (aM w A0 n cap Ax m a N false).heap.size 83 2 v2 1 (ah [⟨⟨p,N⟩,Ax,a⟩]):=by simpa using g
 have C:=aa G;have R:Hid (Below (aM w A0 n cap Ax m a N false).heap.size (aM w A0 n cap Ax m a N false) w5):=gG j.out j.out.size D.out d;clear g d G g1 g2 g3
 go_wp2_with (at_builtin;refine wpList_append_own_none rfl _ _ 35 rfl (aM w A0 n cap Ax m a N false).heap.size 83 i0 2 Tryz.underlying35 F _ 1 _ rfl C.out rfl ?_)
 obtain ⟨w6,V⟩:∃ w6:World,w6=w5:=⟨_,rfl⟩;subst V;have q:=aa (ae M.out R.out);have H:=C.out;obtain ⟨B,c,I,hV⟩:=lc (zs:=[⟨⟨p,N⟩,Ax,a⟩]) H (fun y hy=>by rw [List.mem_singleton.1 hy];exact HP.out.later q.out)
 have HV:=aa hV;rw [I];clear H hV I;go_wp2_with fail
 go_ret2
 exact ⟨⟨B,c,_,rfl,HV.out,rfl⟩,q.out⟩
theorem yB (A0:Option Addr) (cap n:Nat) (b o:Nat) (sp:Option Nat) (X:Nat) (Ax:Option Addr) (m a:Nat) (p:List Int) (N:Int) (lf:Bool) (w:World) (hm:p.length=m) (hP:aZ w Ax a p) (Y:EditCalls (aM w A0 n cap Ax m a N false) A0 cap n (some ⟨b,o,sp⟩) 0 X Ax m a 0 0 false lf) (u9:lf=true) (hlo : ¬ N < -1000000) (hhi : ¬ 1000000<N) :
  Calls Tryz.prog 23 #[.agg #[.slice A0 n cap],.slice (some ⟨b,o,sp⟩) 0 X,.agg #[.slice Ax m a,.int .i64 N,.bool false]] w fun e w'=>(∃ B c zs,e=.returned (.tuple #[.slice B zs.length c,.int .i64 0])∧fJ w' B c zs∧lE zs=[⟨p,N⟩])∧Bl w w':=by
 obtain ⟨i0,M,R,r,s⟩:=info_parts Tryz.infoEnt;have HX:=aa Y;have T:Hid (Bl w (aM w A0 n cap Ax m a N false)):=dB ..;have h1:=Y.place _ (zS);have HM:=aa hm;have HP:=aa hP;clear Y hm hP;subst u9
 go_enter Tryz.func23,Tryz.ntmps23
 go_wp2_with fail;refine h1.mono ?_;rintro e w1 ⟨rfl,d⟩;have U:=aa d;have c0:=aC d (by show w.heap.size<_;rw [aq];omega) (gf w A0 n cap Ax m a N false)
 have c1:=(d.cell (p:=⟨w.heap.size+1,0,none⟩) (by show w.heap.size+1<_;rw [aq];omega)).trans (aQ w A0 n cap Ax m a N false).1
 have E:Hid (w1.cell? ⟨w.heap.size+1,1,none⟩=some (.int .i64 N)):=(d.cell (p:=⟨w.heap.size+1,1,none⟩) (by show w.heap.size+1<_;rw [aq];omega)).trans (aQ w A0 n cap Ax m a N false).2.1
 have F:Hid (w1.cell? ⟨w.heap.size+1,2,none⟩=some (.bool false)):=(d.cell (p:=⟨w.heap.size+1,2,none⟩) (by show w.heap.size+1<_;rw [aq];omega)).trans (aQ w A0 n cap Ax m a N false).2.2
 have l:w.heap.size+1<w1.heap.size:=by have:=d.size;rw [aq] at this;omega
 have C:=aa c0;have D:=aa c1;have h2:=HX.out.find rfl w1 d;clear d h1;go_wp2_with fail;refine h2.mono ?_;rintro e w2 ⟨rfl,d⟩;have z:=aa (ae U.out d);have d0:w2.cell? ⟨w.heap.size,0,none⟩=some (.slice A0 n cap):=aC d (by show w.heap.size<_;omega) C.out
 have d1:w2.cell? ⟨w.heap.size+1,0,none⟩=some (.slice Ax m a):=aC d l D.out;have G:=aa d1;have H:Hid (w2.cell? ⟨w.heap.size+1,1,none⟩=some (.int .i64 N)):=aC d l E.out;have I:Hid (w2.cell? ⟨w.heap.size+1,2,none⟩=some (.bool false)):=aC d l F.out;have q:w.heap.size+1<w2.heap.size:=zW l d.size;have h3:=HX.out.leaf rfl w2 z.out;clear d h2 c0 c1 C D E F;go_wp2_with fail;refine h3.mono ?_;rintro e w3 ⟨rfl,d⟩;have V:=aa (ae z.out d);have f1:w3.cell? ⟨w.heap.size+1,0,none⟩=some (.slice Ax m a):=aC d q G.out;have f2:w3.cell? ⟨w.heap.size+1,1,none⟩=some (.int .i64 N):=aC d q H.out;have f3:w3.cell? ⟨w.heap.size+1,2,none⟩=some (.bool false):=aC d q I.out;have hz3:w.heap.size+1<w3.heap.size:=zW q d.size;clear d h3 d0 d1 G H I;obtain ⟨w4,K0⟩:∃ w4:World,w4=w3:=⟨_,rfl⟩;subst K0;have h:=V.out;have x:w.heap.size+1<(aM w A0 n cap Ax m a N false).heap.size:=by rw [aq];omega
 have W:=aa h;have g1:w4.cell? ⟨w.heap.size+1,0,none⟩=some (.slice Ax m a):=(h.cell (p:=⟨w.heap.size+1,0,none⟩) x).trans (aQ w A0 n cap Ax m a N false).1;have g2:w4.cell? ⟨w.heap.size+1,1,none⟩=some (.int .i64 N):=(h.cell (p:=⟨w.heap.size+1,1,none⟩) x).trans (aQ w A0 n cap Ax m a N false).2.1;have g3:w4.cell? ⟨w.heap.size+1,2,none⟩=some (.bool false):=(h.cell (p:=⟨w.heap.size+1,2,none⟩) x).trans (aQ w A0 n cap Ax m a N false).2.2;clear h f1 f2 f3;have L:=dh w4 Ax m a N 83;have K:Hid ((dt w4 Ax m a N 83).ownsRow (aM w A0 n cap Ax m a N false).heap.size 83 2 (.slice none 0 0) 0 []):=World.ownsRow_nil _ _ _ _;have v:=aa (ae W.out L);have S:Hid (∀ k u,(ah [⟨⟨p,N⟩,Ax,a⟩])[k]?=some u→(dt w4 Ax m a N 83).cell? ((⟨w4.heap.size,0,none⟩:Addr).add k)=some u):=fun k u Z=>by
  have hh:(dt w4 Ax m a N 83).heap[w4.heap.size]?=some (.cells #[.slice Ax m a,.int .i64 N] 83 (0,0)):=heap_alloc_new w4 _;rw [aK,Nat.zero_add,Lib.cell_of_heap hh]
  simpa [ah,HM.out] using Z
 clear L
 go_wp2_with (at_builtin;refine wpList_append_own _ rfl _ _ 35 rfl (aM w A0 n cap Ax m a N false).heap.size 83 i0 (.agg #[.slice none 0 0,.int .i64 0]) 2 32 Tryz.underlying35 M R r s rfl (by decide) _ _ _ rfl K.out ⟨w4.heap.size,0,none⟩ 1 1 (ah [⟨⟨p,N⟩,Ax,a⟩]) rfl rfl S.out (bH _) ?qd4 ?qd5 v.out.size ?_)
 case qd4=>simp only [maxLen];omega
 case qd5=>omega
 intro v2 w5 i f _;have O:w5.ownsRow (aM w A0 n cap Ax m a N false).heap.size 83 2 v2 1 (ah [⟨⟨p,N⟩,Ax,a⟩]):=by simpa using i
 have J:=aa O;have t:Hid (Below (aM w A0 n cap Ax m a N false).heap.size (aM w A0 n cap Ax m a N false) w5):=gG v.out v.out.size K.out f;clear i f O g1 g2 g3
 go_wp2_with (at_builtin;refine wpList_append_own _ rfl _ _ 35 rfl (aM w A0 n cap Ax m a N false).heap.size 83 i0 (.agg #[.slice none 0 0,.int .i64 0]) 2 32 Tryz.underlying35 M R r s rfl (by decide) _ _ _ rfl J.out ⟨b,o,sp⟩ 0 X [] rfl rfl (fun k u Z=>by simp at Z) (fun u hu=>by cases hu) ?qe4 ?qe5 t.out.size ?_)
 case qe4=>simp only [maxLen];omega
 case qe5=>omega
 intro v3 w6 j g _;have A:=aa (ae T.out (gG t.out t.out.size J.out g));have P:w6.ownsRow (aM w A0 n cap Ax m a N false).heap.size 83 2 v3 1 (ah [⟨⟨p,N⟩,Ax,a⟩]):=by simpa using j
 clear j g;obtain ⟨B,c,Q,hV⟩:=lc (zs:=[⟨⟨p,N⟩,Ax,a⟩]) P (fun y hy=>by rw [List.mem_singleton.1 hy];exact HP.out.later A.out)
 have HV:=aa hV;rw [Q];clear P hV Q;go_wp2_with fail
 go_ret2
 exact ⟨⟨B,c,_,rfl,HV.out,rfl⟩,A.out⟩
end Go.Proofs.YtohgnbgamfepoaaGreatDoor
