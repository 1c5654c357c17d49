/- A hall in memory (pack -/
import Derived.Test.YtompdcaikmekkaaGreatDoorJHBO
namespace Go.Proofs.YtompdcaikmekkaaGreatDoor
open ChangeShapes WideShapes ChangeAt RowKit
set_option maxRecDepth 99999
set_option maxHeartbeats 0
theorem im.same {w w':World} {b o:Nat} {L:List (Int×Int)} (h:im w b o L) (e:w.heap.size≤w'.heap.size) (c:w'.heap[b]?=w.heap[b]?):im w' b o L :=
 ⟨zW h.1 e,fun k d=>⟨(World.cell?_of_block (a:=⟨b,o+k*2,none⟩) c).trans (h.2 k d).1,(World.cell?_of_block (a:=⟨b,o+k*2+1,none⟩) c).trans (h.2 k d).2⟩⟩
theorem a7.frame {w w':World} {N:Nat} {A:Option Addr} {c:Nat} {L:List Int} (h:a7 w A c L) (l:eU N A) (m:w.heap.size≤w'.heap.size) (i:∀ b,N≤b→b<w.heap.size→w'.heap[b]?=w.heap[b]?):a7 w' A c L:=by
 obtain ⟨e,d | ⟨b,o,d,f,g⟩⟩:=h
 ·exact ⟨e,Or.inl d⟩
 exact ⟨e,Or.inr ⟨b,o,d,zW f m,fun j k=>(World.cell?_of_block (a:=⟨b,o+j,none⟩) (i b (l b o d) f)).trans (g j k)⟩⟩
theorem b6.frame {w w':World} {N:Nat} {A:Option Addr} {c:Nat} {xs:List EnL} (h:b6 w A c xs) (q:eU N A) (r:dQ N xs) (l:w.heap.size≤w'.heap.size) (k:∀ b,N≤b→b<w.heap.size→w'.heap[b]?=w.heap[b]?):b6 w' A c xs:=by
 obtain ⟨g,f,e | ⟨b,o,e,i,m,n⟩⟩:=h
 ·exact ⟨g,f,Or.inl e⟩
 exact ⟨g,f,Or.inr ⟨b,o,e,zW i l,fun j u p=>(World.cell?_of_block (a:=⟨b,o+j,none⟩) (k b (q b o e) i)).trans (m j u p),fun x d=>(n x d).frame (r x d) l k⟩⟩
theorem jW.frame {w w':World} {N g n:Nat} {D:Nat→Dm} {G C:Nat→Nat} (h:jW w N g n D G C) (c:∀ b,N≤b→b<w.heap.size→w'.heap[b]?=w.heap[b]?):jW w' N g n D G C :=
 ⟨h.1,h.2.1.same (c _ h.1 h.2.1.lt),fun i a=>⟨(h.2.2 i a).1,(h.2.2 i a).2.1,(h.2.2 i a).2.2.same (c _ (h.2.2 i a).1 (h.2.2 i a).2.2.lt)⟩⟩
def HV (w:World) (h:Nat) (S:Nat→Prop) (D:Nat→Dm) (n:Nat) (l:List En):Prop :=
 (∀ b,S b→b<w.heap.size)∧((aP D n).2.2=0∧Ens D n l)∧S h∧∃ (A0:Option Addr) (co:Nat) (A:Nat→Option Addr) (C:Nat→Nat) (Ae:Option Addr) (ce:Nat) (zs:List EnL) (gc oc cc:Nat),
  w.heap[h]?=some (.cells #[.slice A0 n co,.slice Ae zs.length ce,.slice (some ⟨gc,oc,none⟩) (prodN D n) cc] 62 (0,0))∧lE zs=l∧prodN D n≤cc∧cc≤9223372036854775807 ∧
  ∀ w',w.heap.size≤w'.heap.size→(∀ b,S b→b≠h→w'.heap[b]?=w.heap[b]?)→aY w' A0 co n D A C∧b6 w' Ae ce zs∧im w' gc oc (caL D n l)
theorem HV.keep {w w':World} {h:Nat} {S:Nat→Prop} {D:Nat→Dm} {n:Nat} {l:List En} (H:HV w h S D n l) (i:w.heap.size≤w'.heap.size) (g:∀ b,S b→w'.heap[b]?=w.heap[b]?):HV w' h S D n l:=by
 obtain ⟨o,p,f,A0,m,A,C,Ae,k,zs,gc,oc,j,q,r,s,t,u⟩:=H;exact ⟨fun b a=>zW (o b a) i,p,f,A0,m,A,C,Ae,k,zs,gc,oc,j,(g h f).trans q,r,s,t,fun w2 e c=>u w2 (zV i e) fun b a d=>(c b a d).trans (g b a)⟩
theorem ue (A0:Option Addr) (cap n:Nat) (D:Nat→Dm) (A:Nat→Option Addr) (C:Nat→Nat) (w:World) (f:(aP D n).2.2≠0) (i:aY w A0 cap n D A C) :
  Rt 5 #[.agg #[.slice A0 n cap]] w (.tuple #[.pointer none,errV (aP D n).2.2]):=by
 have b:=aq w A0 n cap 24;have k:=aI w A0 n cap 24;have a:=D9 A0 cap n D A C none 0 [] (ay w A0 n cap 24) (i.later b) (b6.nil _ _ _ (by omega))
 have c:fj D n (lE [])=(aP D n).2.2:=by unfold fj;rw [if_pos f]
 rw [c,se (by rw [c];exact f),ak f] at a
 rw [ak f];simp only [List.length_nil] at a;obtain ⟨W,j⟩:=aA (ay w A0 n cap 24);rw [j] at b k a;unfold ay at j;have g:=aa b;generalize (aP D n).2.2=z at a ⊢;clear i b f c
 go_enter Tryz.func5,Tryz.ntmps5
 go_wp2_with fail;refine a.mono ?_;rintro e w1 ⟨⟨A1,c1,rfl,-⟩,d⟩;have h:=aa (ae g.out d);clear d a;go_wp2_with fail;go_returns;exact ⟨rfl,h.out⟩
theorem ug (A0:Option Addr) (cap n:Nat) (D:Nat→Dm) (A:Nat→Option Addr) (C:Nat→Nat) (w:World) (F:(aP D n).2.2=0) (M:aY w A0 cap n D A C) :
  Calls Tryz.prog 5 #[.agg #[.slice A0 n cap]] w fun e w'=>(∃ h S,e=.returned (.tuple #[.pointer (some ⟨h,0,none⟩),.nilIface])∧HV w' h S D n []∧∀ b,S b→w.heap.size≤b)∧Bl w w':=by
 obtain ⟨z,hR⟩:=ew F;have q:Ens D n []:=⟨z,fun e he=>(by cases he),List.Pairwise.nil⟩
 have m:=gw F q;have o:=aq w A0 n cap 24;have E:=aw w A0 n cap 24;have L:=aI w A0 n cap 24;have f:=tK A0 cap n D A C none 0 [] (ay w A0 n cap 24) (M.later o) (b6.nil _ _ _ (by omega))
 rw [show lE ([]:List EnL)=[] from rfl,m,errV_zero,gK m] at f
 simp only [List.length_nil] at f;obtain ⟨hn1,hn4,U,V⟩:=au z;have y:1≤prodN D n:=mx fun i hi=>(V i hi).1
 have J:Hid (∀ w',Bl w w'→Calls Tryz.prog 20 #[.agg #[.slice A0 n cap]] w' fun e w''=>(∃ g c G C',e=.returned (.agg #[.slice (some ⟨g,0,none⟩) n c])∧n≤c∧jW w'' w'.heap.size g n D G C')∧Bl w' w''):=fun w' hB=>xM A0 cap n D A C w' z (M.later hB)
 have k:Hid (∀ (w1 w2:World) (g c:Nat) (G C':Nat→Nat) (A1:Option Addr) (c1:Nat),Bl w w1→dw w1 A1 c1 (caL D n [])→eU w.heap.size A1→Bl w1 w2→n≤c→jW w2 w1.heap.size g n D G C'→∃ S,HV (w2.alloc (.cells #[.slice (some ⟨g,0,none⟩) n c,.slice none 0 0,.slice A1 (prodN D n) c1] 62)) w2.heap.size S D n []∧∀ b,S b→w.heap.size≤b):=fun w1 w2 g c G C' A1 c1 a hC hN d T B=>by
  obtain ⟨X,q2,q3 | ⟨gc,oc,rfl,Y⟩⟩:=hC
  ·have:=gK m;rw [q3] at this;simp at this;omega
  rw [gK m] at X;have j:(w2.alloc (.cells #[.slice (some ⟨g,0,none⟩) n c,.slice none 0 0,.slice (some ⟨gc,oc,none⟩) (prodN D n) c1] 62)).heap.size=w2.heap.size+1:=by simp
  refine ⟨fun b=>w.heap.size≤b∧b<w2.heap.size+1,⟨fun b v=>by rw [j];exact v.2,⟨F,q⟩,⟨(ae a d).size,by omega⟩,some ⟨g,0,none⟩,c,(fun i=>some ⟨G i,0,none⟩),C',none,0,[],gc,oc,c1,heap_alloc_new ..,rfl,X,q2,fun w' hs v=>?_⟩,fun b v=>v.1⟩
  have u:∀ b,w.heap.size≤b→b<w2.heap.size→w'.heap[b]?=w2.heap[b]?:=fun b a d=>(v b ⟨a,by omega⟩ (by omega)).trans (Below.heap_alloc _ _ _ d)
  rw [j] at hs;have O:=B.frame (w':=w') fun b Q R=>u b (zV a.size Q) R
  refine ⟨⟨T,Or.inr ⟨g,0,rfl,O.dims⟩⟩,b6.nil _ _ _ (by omega),?_⟩
  exact (Y.later d).same (by omega) (u gc (hN gc oc rfl) (Y.later d).1)
 obtain ⟨W,P⟩:=aA (ay w A0 n cap 24);rw [P] at o L E f;unfold ay at P;have H:=aa o;have j:w.heap.size<W.heap.size:=by omega
 generalize caL D n []=CL at f k;generalize prodN D n=N at f k;clear M o F z hR q m V U y E
 go_enter Tryz.func5,Tryz.ntmps5
 go_wp2_with fail;refine f.mono ?_;rintro e w1 ⟨⟨A1,c1,rfl,s,t⟩,a⟩;have p:=aa (ae H.out a);have I:=aa s;have K:=aa (t.le (Nat.le_of_lt j));have x1:=aD a j L;have hs1:w.heap.size<w1.heap.size:=zW j a.size;have x:=J.out w1 p.out;clear a f s t L P;go_wp2_with fail;refine x.mono ?_;rintro e w2 ⟨⟨g,c,G,C',rfl,T,B⟩,d⟩;have r:=aa d;have Z:=aa B;clear d B x;go_wp2_with fail;go_returns;obtain ⟨S,hH,E⟩:=k.out w1 w2 g c G C' A1 c1 p.out I.out K.out r.out T Z.out;exact ⟨⟨_,S,rfl,hH,E⟩,ae p.out (ae r.out (by go_grown))⟩
section
variable {w:World} {h:Nat} {S:Nat→Prop} {D:Nat→Dm} {n:Nat} {l:List En}
theorem HV.parts (H:HV w h S D n l):∃ (A0:Option Addr) (f:Nat) (A:Nat→Option Addr) (C:Nat→Nat) (Ae:Option Addr) (e:Nat) (zs:List EnL) (gc oc d:Nat),h<w.heap.size∧(w.cell? ⟨h,0,none⟩=some (.slice A0 n f)∧w.cell? ⟨h,1,none⟩=some (.slice Ae zs.length e)∧w.cell? ⟨h,2,none⟩=some (.slice (some ⟨gc,oc,none⟩) (prodN D n) d))∧lE zs=l∧prodN D n≤d∧d≤9223372036854775807∧aY w A0 f n D A C∧b6 w Ae e zs∧im w gc oc (caL D n l):=by
 obtain ⟨i,q,j,A0,f,A,C,Ae,e,zs,gc,oc,d,g,k,m,o,p⟩:=H;obtain ⟨a,b,c⟩:=p w (zT) fun _ _ _=>rfl
 exact ⟨A0,f,A,C,Ae,e,zs,gc,oc,d,i h j,⟨(Lib.cell_of_heap g 0).trans rfl,(Lib.cell_of_heap g 1).trans rfl,(Lib.cell_of_heap g 2).trans rfl⟩,k,m,o,a,b,c⟩
theorem HV.sizes (H:HV w h S D n l):(am D n).2.2=0∧(caL D n l).length=prodN D n∧1≤prodN D n∧prodN D n≤3000:=by
 obtain ⟨b,g⟩:=ew H.2.1.1;obtain ⟨e,f,a,c⟩:=au b;exact ⟨b,gK (gw H.2.1.1 H.2.1.2),mx fun i d=>(c i d).1,a⟩
end
theorem oR (h:Nat) (S:Nat→Prop) (D:Nat→Dm) (n:Nat) (l:List En) (w:World) (H:HV w h S D n l) :
  Calls Tryz.prog 13 #[.pointer (some ⟨h,0,none⟩)] w fun e w'=>(∃ A' c,e=.returned (.slice A' (caL D n l).length c)∧dw w' A' c (caL D n l))∧Bl w w':=by
 obtain ⟨A0,t,A,C,Ae,s,zs,gc,oc,r,u,⟨-,-,c2⟩,-,-,-,-,-,q⟩:=H.parts;obtain ⟨-,k,m,o⟩:=H.sizes;have a:=oa gc oc r (caL D n l) w (by omega) (by omega) q
 rw [k] at a ⊢;have b:=aa k;generalize caL D n l=CL at a b;generalize prodN D n=N at c2 a b;clear H q k m o
 go_enter Tryz.func13,Tryz.ntmps13
 go_wp2_with fail;refine a.mono ?_;rintro e w1 ⟨⟨g,c,rfl,-,i,j,d⟩,f⟩;have p:Hid (dw w1 (some ⟨g,0,none⟩) c CL∧Bl w w1):=⟨⟨by rw [b.out];exact i,j,Or.inr ⟨g,0,rfl,d.celAt⟩⟩,f⟩
 clear f d a;go_wp2_with fail;go_ret;exact ⟨⟨_,c,rfl,p.out.1⟩,p.out.2⟩
theorem k6 (h:Nat) (S:Nat→Prop) (D:Nat→Dm) (n:Nat) (l:List En) (w:World) (H:HV w h S D n l) :
  Calls Tryz.prog 15 #[.pointer (some ⟨h,0,none⟩)] w fun e w'=>(∃ A' c' zs,e=.returned (.slice A' zs.length c')∧b6 w' A' c' zs∧lE zs=l)∧Bl w w':=by
 obtain ⟨A0,q,A,C,Ae,o,zs,gc,oc,p,r,⟨-,c1,-⟩,k,-,-,-,g,-⟩:=H.parts;have a:=H.2.1.2;rw [←k] at a;have c:=BT Ae o zs w (ku a) (oN a) g;have m:=aa k;have f:Hid (∀ ys:List EnL,lE ys=lE zs→ys.length=zs.length):=fun ys h=>by rw [←a8,h,a8]
 generalize zs.length=zl at c1 c f;clear H g k a
 go_enter Tryz.func15,Tryz.ntmps15
 go_wp2_with fail;refine c.mono ?_;rintro e w1 ⟨⟨ys,rfl,b,d⟩,i⟩;have j:Hid (b6 w1 (some ⟨w.heap.size,0,none⟩) zl ys∧lE ys=l∧Bl w w1∧ys.length=zl):=⟨b.ensV,d.trans m.out,i,f.out ys d⟩;clear i b d c;go_wp2_with fail;go_ret;exact ⟨⟨_,zl,ys,by rw [j.out.2.2.2];rfl,j.out.1,j.out.2.1⟩,j.out.2.2.1⟩
theorem BY (h:Nat) (S:Nat→Prop) (D:Nat→Dm) (n:Nat) (l:List En) (Ap:Option Addr) (R:Nat) (p:List Int) (w:World) (H:HV w h S D n l) (V:a7 w Ap R p) :
  Rt 17 #[.pointer (some ⟨h,0,none⟩),.slice Ap p.length R] w (.tuple #[.agg #[.int .i64 (hcV D n l p).1,.int .i64 (hcV D n l p).2],errV (placeErr D n p)]):=by
 obtain ⟨A0,co,A,C,Ae,ce,zs,gc,oc,cc,hh,⟨c0,-,c2⟩,-,x,-,T,-,O⟩:=H.parts;obtain ⟨hE,X,G,I⟩:=H.sizes;obtain ⟨W,u⟩:=aA (w.alloc (.cells #[.int .i64 0,.int .i64 0] 52));have g:Bl w W:=by rw [←u];go_grown
 have hWs:W.heap.size=w.heap.size+1:=by rw [←u];simp
 obtain ⟨P,Q,i,j⟩:=cE (show W.heap[w.heap.size]?=some (.cells #[.int .i64 0,.int .i64 0] 52 (0,0)) from by rw [←u];exact heap_alloc_new ..)
 have a:=gS A0 co n D A C Ap R p W (T.later g) (V.later g);have t:=aD g hh c0;have s:=aa g;have hne:h≠w.heap.size:=by omega
 by_cases f:placeErr D n p=0
 ·have hI:=fV f
  have k:=ba hI (Nat.le_refl n);obtain ⟨m,Y⟩:∃ m:Nat,numI D p n=(m:Int):=⟨(numI D p n).toNat,by have:=k.1;omega⟩
  have E:m<prodN D n:=by have:=k.2.1;omega
  have F:numV D n p=(m:Int):=by unfold numV;rw [if_pos f,Y]
  have d:hcV D n l p=(caL D n l).getD m noC:=by unfold hcV;rw [if_pos f,Y,Int.toNat_natCast]
  rw [F,f,errV_zero] at a;rw [d,f,errV_zero];obtain ⟨L,M⟩:=O.2 m (by rw [X];exact E)
  have B:=O.1;have y:(prodN D n:Int)≤(cc:Int):=by omega
  have Z:(m:Int)<(prodN D n:Int):=by omega
  have U:(prodN D n:Int)≤3000:=by omega
  generalize (caL D n l).getD m noC=r at L M;obtain ⟨J,K⟩:=r;simp only at L M ⊢;generalize prodN D n=N at c2 E y Z U;generalize p.length=pl at a;clear H T O V hI k Y F d f hE X G I x;have hgne:gc≠w.heap.size:=by omega
  go_enter Tryz.func17,Tryz.ntmps17
  go_wp2_with fail;refine a.mono ?_;rintro e w1 ⟨rfl,b⟩;have c:=aa (ae s.out b);have x2:w1.cell? ⟨h,2,none⟩=some (.slice (some ⟨gc,oc,none⟩) N cc):=aD c.out hh c2;have y0:w1.cell? ⟨gc,oc+m*2,none⟩=some (.int .i64 J):=aD c.out B L;have y1:w1.cell? ⟨gc,oc+m*2+1,none⟩=some (.int .i64 K):=aD c.out B M;have z0:=aD b (by show w.heap.size<_;omega) P
  have z1:=aD b (by show w.heap.size<_;omega) Q
  have zf0:=(b.frozen (p:=⟨w.heap.size,0,none⟩) (by show w.heap.size<_;omega)).trans i
  have zf1:=(b.frozen (p:=⟨w.heap.size,1,none⟩) (by show w.heap.size<_;omega)).trans j
  have KG:w.heap.size<w1.heap.size:=by have:=b.size;omega
  clear b a P Q i j c0 t c2 L M u;go_wp2_with fail;have o:((w1.setCell ⟨w.heap.size,0,none⟩ (.int .i64 J)).setCell ⟨w.heap.size,1,none⟩ (.int .i64 K)).cell? ⟨w.heap.size,0,none⟩=some (.int .i64 J):=by rw [World.cell?_setCell_other _ _ _ _ (by simp)];exact World.cell?_setCell_same _ _ _ z0
  have q:((w1.setCell ⟨w.heap.size,0,none⟩ (.int .i64 J)).setCell ⟨w.heap.size,1,none⟩ (.int .i64 K)).cell? ⟨w.heap.size,1,none⟩=some (.int .i64 K):=World.cell?_setCell_same _ _ _ ((World.cell?_setCell_other _ _ _ _ (by simp)).trans z1)
  refine bodyPost_ret (v:=.tuple #[.agg #[.int .i64 J,.int .i64 K],.nilIface]) (by simp [results,Tryz.results17,go_sem,o,q]) rfl ⟨rfl,(c.out.setCell (zT) _).setCell (zT) _⟩
 have d:hcV D n l p=(0,0):=by unfold hcV;rw [if_neg f]
 rw [ak f] at a;rw [d,ak f];simp only;generalize placeErr D n p=z at a;generalize numV D n p=nv at a;generalize p.length=pl at a;clear H T O V d f hE X G I x
 go_enter Tryz.func17,Tryz.ntmps17
 go_wp2_with fail;refine a.mono ?_;rintro e w1 ⟨rfl,b⟩;have c:=aa (ae s.out b);have z0:=aD b (by show w.heap.size<_;omega) P
 have z1:=aD b (by show w.heap.size<_;omega) Q
 have zf0:=(b.frozen (p:=⟨w.heap.size,0,none⟩) (by show w.heap.size<_;omega)).trans i
 have zf1:=(b.frozen (p:=⟨w.heap.size,1,none⟩) (by show w.heap.size<_;omega)).trans j
 have KG:w.heap.size<w1.heap.size:=by have:=b.size;omega
 clear b a P Q i j c0 t c2 u;go_wp2_with fail;have o:((w1.setCell ⟨w.heap.size,0,none⟩ (.int .i64 0)).setCell ⟨w.heap.size,1,none⟩ (.int .i64 0)).cell? ⟨w.heap.size,0,none⟩=some (.int .i64 0):=by rw [World.cell?_setCell_other _ _ _ _ (by simp)];exact World.cell?_setCell_same _ _ _ z0
 have q:((w1.setCell ⟨w.heap.size,0,none⟩ (.int .i64 0)).setCell ⟨w.heap.size,1,none⟩ (.int .i64 0)).cell? ⟨w.heap.size,1,none⟩=some (.int .i64 0):=World.cell?_setCell_same _ _ _ ((World.cell?_setCell_other _ _ _ _ (by simp)).trans z1)
 refine bodyPost_ret (v:=.tuple #[.agg #[.int .i64 0,.int .i64 0],.iface 63 (.int .i64 z)]) (by simp [results,Tryz.results17,go_sem,o,q]) rfl ⟨rfl,(c.out.setCell (zT) _).setCell (zT) _⟩
theorem E2 {W w':World} {q:Nat} {u v:Value} (h:q<W.heap.size∧W.cell? ⟨q,0,none⟩=some u∧W.cell? ⟨q,1,none⟩=some v) (a:Bl W w'):Bl W w'∧w'.cell? ⟨q,0,none⟩=some u∧w'.cell? ⟨q,1,none⟩=some v:=⟨a,aD a h.1 h.2.1,aD a h.1 h.2.2⟩
theorem Im {w:World} {h T:Nat} {a b c:Value} {fr:Nat×Nat} (k:w.heap[h]?=some (.cells #[a,b,c] T fr)) (u v:Value):((w.setCell ⟨h,1,none⟩ u).setCell ⟨h,2,none⟩ v).heap[h]?=some (.cells #[a,u,v] T fr):=cH (cH k)
theorem uf (h:Nat) (S:Nat→Prop) (D:Nat→Dm) (n:Nat) (l:List En) (Ax:Option Addr) (cx:Nat) (ys:List EdL) (w:World) (H:HV w h S D n l) (hX:km w Ax cx ys) :
  Calls Tryz.prog 10 #[.pointer (some ⟨h,0,none⟩),.slice Ax ys.length cx] w fun e w'=>(∃ S',e=.returned (.tuple #[.int .i64 (doN D n l (lD ys):Nat),errV (doE D n l (lD ys))])∧HV w' h S' D n (doL D n l (lD ys))∧∀ b,S' b→S b∨w.heap.size≤b)∧Kept w.heap.size (fun b=>b=h) w w':=by
 have HH:=aa H;obtain ⟨F,⟨hr,K⟩,U,A0,E,A,C,Ae,ce,zs,gc,oc,cc,j,hlz,hcc,hc9,X⟩:=id H;obtain ⟨hM,hEn,hC⟩:=X w (zT) fun _ _ _=>rfl
 obtain ⟨hE,V,hp1,hp3⟩:=H.sizes;have hh:h<w.heap.size:=F h U;have c0:w.cell? ⟨h,0,none⟩=some (.slice A0 n E):=(Lib.cell_of_heap j 0).trans rfl;have c1:w.cell? ⟨h,1,none⟩=some (.slice Ae zs.length ce):=(Lib.cell_of_heap j 1).trans rfl;have c2:w.cell? ⟨h,2,none⟩=some (.slice (some ⟨gc,oc,none⟩) (prodN D n) cc):=(Lib.cell_of_heap j 2).trans rfl;have Q:Hid (h<w.heap.size∧w.cell? ⟨h,0,none⟩=some (.slice A0 n E)∧w.cell? ⟨h,1,none⟩=some (.slice Ae zs.length ce)):=⟨hh,c0,c1⟩;have f:Hid (∀ w',Bl w w'→Calls Tryz.prog 25 #[.agg #[.slice A0 n E],.slice Ae zs.length ce,.slice Ax ys.length cx] w' fun e w''=>(∃ B c us,e=.returned (.tuple #[.slice B us.length c,.int .i64 (editsV D n l (lD ys)).2.1,errV (doE D n l (lD ys))])∧b6 w'' B c us∧lE us=(editsV D n l (lD ys)).1∧eU w.heap.size B∧dQ w.heap.size us)∧Bl w' w''):=fun w' s=>by
  have h':=EQ A0 E n D A C Ae ce zs Ax cx ys w' (hM.later s) (hEn.later s) (hX.later s);rw [hlz] at h';exact h'.mono fun _ _ ⟨⟨B,c,us,a1,a2,a3,a4,a5⟩,a6⟩=>⟨⟨B,c,us,a1,a2,a3,a4.le s.size,a5.le s.size⟩,a6⟩
 by_cases P:doE D n l (lD ys)=0
 ·obtain ⟨O,W,hdo⟩:=jm K P
  rw [lD_len] at O hdo;have hl2:=wH K (lD ys);have HV1:Hid (doL D n l (lD ys)=(editsV D n l (lD ys)).1):=by show _=_;unfold doL;rw [if_pos P]
  rw [P,errV_zero] at f ⊢;have HCl:Hid (∀ w',Bl w w'→Calls Tryz.prog 26 #[.slice (some ⟨gc,oc,none⟩) (prodN D n) cc] w' fun e w''=>(∃ g c',e=.returned (.slice (some ⟨g,0,none⟩) (prodN D n) c')∧w'.heap.size≤g∧prodN D n≤c'∧c'≤9223372036854775807∧bT w'' g (caL D n l))∧Bl w' w''):=fun w' s=>by
   have h':=oa gc oc cc (caL D n l) w' (by omega) (by omega) (hC.later s)
   rw [V] at h';exact h'
  have I:Hid (∀ w0 w' gC a,Bl w w0→Bl w0 w'→w0.heap.size≤gC→bT w' gC (caL D n l)→prodN D n≤a→Calls Tryz.prog 27 #[.agg #[.slice A0 n E],.slice (some ⟨gC,0,none⟩) (prodN D n) a,.slice Ax ys.length cx] w' fun e w''=>e=.returned .nilIface∧bT w'' gC (wrTo D n (caL D n l) (lD ys) (lD ys).length)∧Bl w0 w''):=fun w0 w' gC a J s hg p q=>by
   have h':=xe A0 E n D A C Ax cx ys gC a (caL D n l) w0 w' O hp3 (hM.later J) (hX.later J) s hg p V q fun k hk=>by
    have h2:=hdo k hk;rw [su] at h2;exact (h2.2.edit h2.1).1
   rw [lD_len];exact h'
  have x:Hid (∀ w0 w' gC a,Bl w w0→Bl w0 w'→w0.heap.size≤gC→bT w' gC (wrTo D n (caL D n l) (lD ys) (lD ys).length)→prodN D n≤a→a≤9223372036854775807→Calls Tryz.prog 28 #[.agg #[.slice A0 n E],.slice (some ⟨gC,0,none⟩) (prodN D n) a,.slice Ax ys.length cx] w' fun e w''=>e=.returned (.tuple #[.int .i64 (doN D n l (lD ys):Nat),.nilIface])∧bT w'' gC (caL D n (doL D n l (lD ys)))∧Bl w0 w''):=fun w0 w' gC a J s hg p q o=>wZ A0 E n D A C Ax cx ys gC a l w0 w' hr K P (hM.later J) (hX.later J) s hg p q o
  have i:Hid (∀ (w4:World) B c us gC a,b6 w4 B c us→lE us=(editsV D n l (lD ys)).1→eU w.heap.size B→dQ w.heap.size us→Bl w w4→w.heap.size≤gC→bT w4 gC (caL D n (doL D n l (lD ys)))→prodN D n≤a→a≤9223372036854775807→(∃ S',HV ((w4.setCell ⟨h,1,none⟩ (.slice B us.length c)).setCell ⟨h,2,none⟩ (.slice (some ⟨gC,0,none⟩) (prodN D n) a)) h S' D n (doL D n l (lD ys))∧∀ b,S' b→S b∨w.heap.size≤b)∧Kept w.heap.size (fun b=>b=h) w ((w4.setCell ⟨h,1,none⟩ (.slice B us.length c)).setCell ⟨h,2,none⟩ (.slice (some ⟨gC,0,none⟩) (prodN D n) a))):=fun w4 B c us gC a T hle Y Z d M p q o=>by
   have v:∀ b,b≠h→((w4.setCell ⟨h,1,none⟩ (.slice B us.length c)).setCell ⟨h,2,none⟩ (.slice (some ⟨gC,0,none⟩) (prodN D n) a)).heap[b]?=w4.heap[b]?:=fun b m=>(av _ _ _ _ _ m).trans (av _ _ _ _ _ m)
   have KH:((w4.setCell ⟨h,1,none⟩ (.slice B us.length c)).setCell ⟨h,2,none⟩ (.slice (some ⟨gC,0,none⟩) (prodN D n) a)).heap.size=w4.heap.size:=by simp
   have KG:((w4.setCell ⟨h,1,none⟩ (.slice B us.length c)).setCell ⟨h,2,none⟩ (.slice (some ⟨gC,0,none⟩) (prodN D n) a)).os=w4.os∧((w4.setCell ⟨h,1,none⟩ (.slice B us.length c)).setCell ⟨h,2,none⟩ (.slice (some ⟨gC,0,none⟩) (prodN D n) a)).tape=w4.tape∧((w4.setCell ⟨h,1,none⟩ (.slice B us.length c)).setCell ⟨h,2,none⟩ (.slice (some ⟨gC,0,none⟩) (prodN D n) a)).output=w4.output:=⟨rfl,rfl,rfl⟩;have hnew:((w4.setCell ⟨h,1,none⟩ (.slice B us.length c)).setCell ⟨h,2,none⟩ (.slice (some ⟨gC,0,none⟩) (prodN D n) a)).heap[h]?=some (.cells #[.slice A0 n E,.slice B us.length c,.slice (some ⟨gC,0,none⟩) (prodN D n) a] 62 (0,0)):=Im ((d.block h hh).trans j) _ _;generalize (w4.setCell ⟨h,1,none⟩ (.slice B us.length c)).setCell ⟨h,2,none⟩ (.slice (some ⟨gC,0,none⟩) (prodN D n) a)=w5 at v KH hnew KG ⊢;refine ⟨⟨fun b=>S b∨(w.heap.size≤b∧b<w4.heap.size),⟨fun b m=>?_,⟨hr,hl2⟩,Or.inl U,A0,E,A,C,B,c,us,gC,0,a,hnew,hle.trans HV1.out.symm,q,o,fun w' hs m=>?_⟩,fun b m=>m.imp id fun h=>h.1⟩,?_⟩
   ·rw [KH]
    rcases m with m | m
    ·exact zW (F b m) d.size
    exact m.2
   ·rw [KH] at hs
    have hag:∀ b,w.heap.size≤b→b<w4.heap.size→w'.heap[b]?=w4.heap[b]?:=fun b h1 h2=>(m b (Or.inr ⟨h1,h2⟩) (by omega)).trans (v b (by omega))
    exact ⟨(X w' (zV d.size hs) fun b hb1 u=>((m b (Or.inl hb1) u).trans (v b u)).trans (d.block b (F b hb1))).1,T.frame Y Z hs hag,p.celAt.same hs (hag gC M p.lt)⟩
   exact ⟨KG.1.trans d.os,KG.2.1.trans d.tape,KG.2.2.trans d.output,by rw [KH];exact d.size,fun k hk hn=>(v k hn).trans (d.block k hk)⟩
  have y:Hid (∀ w4,Bl w w4→w4.cell? ⟨h,0,none⟩=some (.slice A0 n E)∧w4.cell? ⟨h,1,none⟩=some (.slice Ae zs.length ce)∧w4.cell? ⟨h,2,none⟩=some (.slice (some ⟨gc,oc,none⟩) (prodN D n) cc)∧w4.frozen? ⟨h,1,none⟩=false∧w4.frozen? ⟨h,2,none⟩=false∧h<w4.heap.size):=fun w4 m=>by
   have k:=(m.block h hh).trans j;exact ⟨(Lib.cell_of_heap k 0).trans rfl,(Lib.cell_of_heap k 1).trans rfl,(Lib.cell_of_heap k 2).trans rfl,Lib.frozen_of_heap k 1,Lib.frozen_of_heap k 2,zW hh m.size⟩
  generalize caL D n (doL D n l (lD ys))=CL2 at x i;generalize wrTo D n (caL D n l) (lD ys) (lD ys).length=CL1 at I x;generalize caL D n l=CL0 at HCl I;generalize prodN D n=N at HCl I x i y c2;generalize doN D n l (lD ys)=NN at x ⊢;generalize doL D n l (lD ys)=l2 at i ⊢;generalize (editsV D n l (lD ys)).1=ev at f i;generalize (editsV D n l (lD ys)).2.1=ek at f;generalize zs.length=zl at c1 Q f y;generalize ys.length=yl at f I x ⊢;clear H HH F hr K U j hlz hcc hc9 X hM hEn hC hE V hp1 hp3 hX P O W hdo hl2 HV1
  go_enter Tryz.func10,Tryz.ntmps10
  go_wp2_with fail
  go_cut [6,7,8] from 12 (fun s6 s7 s8 wx=>s8=.nilIface∧∃ B c us,s6=.slice B us.length c∧b6 wx B c us∧lE us=ev∧eU w.heap.size B∧dQ w.heap.size us∧Bl w wx)
  case first =>
   go_region_held3 (fun w'=>Bl w w'∧w'.cell? ⟨h,0,none⟩=some (.slice A0 n E)∧w'.cell? ⟨h,1,none⟩=some (.slice Ae zl ce))
    ((refine E2 Q.out ?_;go_grown;done))
    (first
     | (go_at_call 25;refine (f.out _ (by go_grown)).mono ?_;rintro e wa ⟨⟨Ba,ca,us,rfl,hua,hul,hun,hue⟩,L⟩;have hNa:=ae (W0:=w) (by go_grown) L;have hsa:=hNa.size;clear L))
   all_goals go_wp2_with fail
   all_goals go_meet
   all_goals exact ⟨rfl,_,_,us,rfl,hua.later (by go_grown),hul,hun,hue,by go_grown⟩
  case rest =>
  obtain ⟨rfl,B,c,us,rfl,T,hlu,Y,Z,t⟩:=hcut;obtain ⟨w1,rfl⟩:∃ wd:World,wd=wc:=⟨_,rfl⟩;have R:Hid (b6 w1 B c us∧lE us=ev∧eU w.heap.size B∧dQ w.heap.size us):=⟨T,hlu,Y,Z⟩;have r:=aa t;obtain ⟨x0,x1,x2,-,-,hh1⟩:=y.out w1 t;have h1:=HCl.out w1 t;clear T hlu Y Z t c0 c1 c2;go_wp2_with fail;refine h1.mono ?_;rintro e w2 ⟨⟨gC,a,rfl,M,q,o,p⟩,u⟩;have HB2:=aa u;obtain ⟨y0,-,-,-,-,hh2⟩:=y.out w2 (ae r.out u);have h2:=I.out w1 w2 gC a r.out u M p q;clear x0 x1 x2 u h1 p;go_wp2_with fail;refine h2.mono ?_;rintro e w3 ⟨rfl,hC3,hb3⟩;obtain ⟨z0,-,-,-,-,hh3⟩:=y.out w3 (ae r.out hb3);have h3:=x.out w1 w3 gC a r.out hb3 M hC3 q o;clear y0 hb3 hC3 h2;go_wp2_with fail;refine h3.mono ?_;rintro e w4 ⟨rfl,hC4,d⟩;obtain ⟨-,v1,v2,f1,f2,hh4⟩:=y.out w4 (ae r.out d);have G:=aa (i.out w4 B c us gC a (R.out.1.later d) R.out.2.1 R.out.2.2.1 R.out.2.2.2 (ae r.out d) (zV r.out.size M) hC4 q o);clear z0 d hC4 h3;go_wp2_with fail;go_returns;obtain ⟨⟨S',hH',hS'⟩,hK⟩:=G.out;exact ⟨⟨S',rfl,hH',hS'⟩,hK⟩
 have W:doL D n l (lD ys)=l:=by unfold doL;rw [if_neg P]
 have hdn:doN D n l (lD ys)=0:=by unfold doN;rw [if_neg P]
 rw [W,hdn,ak P];rw [ak P] at f;have i:Hid (∀ w',Bl w w'→(∃ S',HV w' h S' D n l∧∀ b,S' b→S b∨w.heap.size≤b)∧Kept w.heap.size (fun b=>b=h) w w'):=fun w' s=>⟨⟨S,HH.out.keep s.size fun b m=>s.block b (F b m),fun b m=>Or.inl m⟩,ax s (zT)⟩
 generalize (editsV D n l (lD ys)).1=ev at f;generalize (editsV D n l (lD ys)).2.1=ek at f;generalize doE D n l (lD ys)=z at f;generalize zs.length=zl at c1 Q f;generalize ys.length=yl at f ⊢;clear H HH F hr K U j hlz hcc hc9 X hM hEn hC hE V hp1 hp3 hX P W hdn
 go_enter Tryz.func10,Tryz.ntmps10
 go_wp2_with fail
 go_cut [6,7,8] from 12 (fun s6 s7 s8 wx=>s8=.iface 63 (.int .i64 z)∧Bl w wx)
 case first =>
  go_region_held3 (fun w'=>Bl w w'∧w'.cell? ⟨h,0,none⟩=some (.slice A0 n E)∧w'.cell? ⟨h,1,none⟩=some (.slice Ae zl ce))
   ((refine E2 Q.out ?_;go_grown;done))
   (first
    | (go_at_call 25;refine (f.out _ (by go_grown)).mono ?_;rintro e wa ⟨⟨Ba,ca,us,rfl,-,-,-,-⟩,L⟩;have hNa:=ae (W0:=w) (by go_grown) L;have hsa:=hNa.size;clear L))
  all_goals go_wp2_with fail
  all_goals go_meet
  all_goals exact ⟨rfl,by go_grown⟩
 case rest =>
 obtain ⟨rfl,t⟩:=hcut;obtain ⟨w1,rfl⟩:∃ wd:World,wd=wc:=⟨_,rfl⟩;have G:=aa (i.out w1 t);clear t;go_wp2_with fail;go_returns;obtain ⟨⟨S',hH',hS'⟩,hK⟩:=G.out;exact ⟨⟨S',rfl,hH',hS'⟩,hK⟩
theorem G5 (h:Nat) (S:Nat→Prop) (D:Nat→Dm) (n:Nat) (l:List En) (Ax:Option Addr) (a:Nat) (ys:List EdL) (w:World) (H:HV w h S D n l) (f:km w Ax a ys) :
  Calls Tryz.prog 10 #[.pointer (some ⟨h,0,none⟩),.slice Ax ys.length a] w fun e w'=>(∃ S',e=.returned (.tuple #[.int .i64 (doN D n l (lD ys):Nat),errV (doE D n l (lD ys))])∧HV w' h S' D n (doL D n l (lD ys))∧∀ b,S' b→S b∨w.heap.size≤b)∧Kept w.heap.size S w w' :=
 (uf h S D n l Ax a ys w H f).mono fun _ _ ⟨c,d⟩=>⟨c,d.wide fun k e=>by rw [e];exact H.2.2.1⟩
theorem HV.box {w:World} {h:Nat} {S:Nat→Prop} {D:Nat→Dm} {n:Nat} {l:List En} (H:HV w h S D n l) (o:Nat) (k:IntKind) (z:Int):w.cell? ⟨h,o,none⟩≠some (.int k z):=fun e=>by
 obtain ⟨-,-,-,A0,d,A,C,Ae,c,zs,gc,oc,b,a,-⟩:=H;rw [Lib.cell_of_heap a] at e
 rcases o with _ | _ | _ | o
 ·cases e
 ·cases e
 ·cases e
 simp at e
theorem a7.box {w w':World} {h:Nat} {A:Option Addr} {c:Nat} {L:List Int} (p:a7 w A c L) (q:∀ o k z,w.cell? ⟨h,o,none⟩≠some (.int k z)) (m:Kept w.heap.size (fun b=>b=h) w w'):a7 w' A c L:=by
 obtain ⟨d,f | ⟨b,o,f,i,l⟩⟩:=p
 ·exact ⟨d,Or.inl f⟩
 by_cases n:L.length=0
 ·exact ⟨d,Or.inl (List.eq_nil_of_length_eq_zero n)⟩
 have g:b≠h:=fun e=>q (o+0) _ _ (by rw [←e];exact l 0 (by omega))
 exact ⟨d,Or.inr ⟨b,o,f,zW i m.size,fun j r=>(World.cell?_of_block (a:=⟨b,o+j,none⟩) (m.block b i g)).trans (l j r)⟩⟩
theorem b6.box {w w':World} {h:Nat} {A:Option Addr} {c:Nat} {xs:List EnL} (p:b6 w A c xs) (n:∀ o k z,w.cell? ⟨h,o,none⟩≠some (.int k z)) (l:Kept w.heap.size (fun b=>b=h) w w'):b6 w' A c xs:=by
 obtain ⟨g,f,i | ⟨b,o,i,d⟩⟩:=p
 ·exact ⟨g,f,Or.inl i⟩
 by_cases r:xs.length=0
 ·exact ⟨g,f,Or.inl (List.eq_nil_of_length_eq_zero r)⟩
 have m:b≠h:=fun e=>n _ _ _ (by rw [←e];exact (d.at (k:=0) (by omega)).2)
 exact ⟨g,f,Or.inr ⟨b,o,i,zW d.1 l.size,fun j u q=>(World.cell?_of_block (a:=⟨b,o+j,none⟩) (l.block b d.1 m)).trans (d.2.1 j u q),fun x s=>(d.2.2 x s).box n l⟩⟩
theorem md:HallC HV where
 keep:=fun H c a=>H.keep c a
 inS:=fun H b a=>H.1 b a
 right:=fun H=>H.2.1
 bad:=ue
 new:=ug
 edit:=G5
 cells:=oR
 entries:=k6
end Go.Proofs.YtompdcaikmekkaaGreatDoor
