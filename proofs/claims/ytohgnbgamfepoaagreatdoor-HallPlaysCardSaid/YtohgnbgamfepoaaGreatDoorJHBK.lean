/-
  What is told at a place of cells that are there, as a plan of package solve tells it (Tell), in whatever memory.
-/
import Derived.Maps.OwnSet
import Derived.Test.YtohgnbgamfepoaaGreatDoorJHBG
namespace Go.Proofs.YtohgnbgamfepoaaGreatDoor
open Go.ChangeShapes Go.WideShapes Go.ChangeAt Go.RowKit
set_option maxRecDepth 20000
theorem rE (q g n:Nat) (D:Nat→Dm) (X:Nat→AL) (x:Nat) (AC:Option Addr) (cC:Nat) (L:List (Int×Int)) (w:World) (hR:dI D n) (hE:(am D n).2.2=0) (hx:x<prodN D n) (Y:cJ w q g n D X) (hL:L.length=prodN D n) (hC:dx w AC cC L) (hok:∀ z∈ndsX D n x,b6 (L.getD z.toNat noC)) :
  Rt 39 #[.pointer (some ⟨q,0,none⟩),.slice AC (prodN D n) cC,.int .i64 x] w (.tuple #[.agg #[.int .i64 (qn D n L x).1,.int .i64 (qn D n L x).2],.nilIface]):=by
 obtain ⟨i0,hi0,hz0,hz1,hz2⟩:=info_parts Tryz.infoCe;obtain ⟨hn1,hn4,hp3,hd⟩:=au hE;obtain ⟨W,hW⟩:=az (w.alloc (.cells #[.int .i64 0,.int .i64 0] 52));have E:Bl w W:=by rw [←hW];go_grown
 have H:W.heap[w.heap.size]?=some (.cells #[.int .i64 0,.int .i64 0] 52 (0,0)):=by rw [←hW];exact heap_alloc_new ..
 have a:=aa E;have HWb:=aa H;have hl0:w.heap.size<W.heap.size:=(zY H).1;obtain ⟨hcL,-,h0 | ⟨bc,oc,rfl,u9⟩⟩:=id hC
 ·rw [h0] at hL;simp at hL;omega
 have B:=sj q g n D X x W hE hx (Y.later E);have T:Hid (∀ w',Bl w w'→bc<w'.heap.size∧∀ j,j<prodN D n→w'.cell? ⟨bc,oc+j*2,none⟩=some (.int .i64 (L.getD j noC).1)∧w'.cell? ⟨bc,oc+j*2+1,none⟩=some (.int .i64 (L.getD j noC).2)):=fun w' p=>by
  obtain ⟨-,-,h0 | ⟨bc',oc',h1,G⟩⟩:=hC.later p
  ·rw [h0] at hL;simp at hL;omega
  cases h1;exact ⟨G.1,fun j hj=>G.2 j (by omega)⟩
 have U:Hid (∀ w',Bl w w'→q<w'.heap.size∧w'.cell? ⟨q,0,none⟩=some (.slice (some ⟨g,0,none⟩) n n)∧w'.cell? ⟨q,1,none⟩=some (.int .i64 (prodN D n:Nat))):=fun w' p=>(Y.later p).cells
 have HA:=aa Y;have HRs:Hid (∀ w',Bl W w'→w.heap.size<w'.heap.size∧w'.cell? ⟨w.heap.size,0,none⟩=some (.int .i64 0)∧w'.cell? ⟨w.heap.size,1,none⟩=some (.int .i64 0)∧w'.frozen? ⟨w.heap.size,0,none⟩=false∧w'.frozen? ⟨w.heap.size,1,none⟩=false):=fun w' p=>⟨zW hl0 p.size,cF ((p.block _ hl0).trans H)⟩
 obtain ⟨hq,q0,q1⟩:=U.out W E;have hnI:(n:Int)≤4:=by omega
 have hP:=bZ (D:=D) (n:=n) (x:=x) hE;obtain ⟨N,hN⟩:=az (prodN D n);have HN:=aa hN
 rcases by_in D (aj D n x) n with h | ⟨b,h,hb⟩
 ·have HV:Hid (qn D n L x=L.getD x noC):=Bt (by omega)
  rw [h] at B;rw [hN] at q1 hx hp3 T U hL ⊢;have hxI:(x:Int)<(N:Int):=by omega
  have hNI:(N:Int)≤3000:=by omega
  have hcI:(N:Int)≤(cC:Int):=by omega
  clear Y hE hR hP h hd hC u9 hok E H hN
  go_enter Tryz.func39,Tryz.ntmps39
  go_wp2_with fail;refine B.mono ?_;rintro e w1 ⟨rfl,f⟩;have HB1:=aa f;obtain ⟨hbc,I⟩:=T.out w1 (ae a.out f);obtain ⟨y0,y1⟩:=I x hx;obtain ⟨hr,r0,r1,r2,r3⟩:=HRs.out w1 f;obtain ⟨⟨ra,rb⟩,s⟩:∃ R,L.getD x noC=R:=⟨_,rfl⟩;have HRe:=aa s;rw [s] at y0 y1;simp only at y0 y1;clear f B q0 q1 hW I s;go_wp2_with fail;refine bodyPost_ret (v:=.tuple #[.agg #[.int .i64 ra,.int .i64 rb],.nilIface]) (by simp [results,Tryz.results39,go_sem,r0,r1]) rfl ⟨by rw [HV.out,HRe.out],?_⟩
  exact ((ae a.out HB1.out).setCell (by simp) _).setCell (by simp) _
 obtain ⟨hd1,hd12⟩:=hd b hb;have hp0:=hP.lo b hb;have hp1:=hP.hi b hb;obtain ⟨m,hm⟩:=az (x / cA D n b % (D b).n);have hpm:((aj D n x).getD b 0).toNat=m:=by rw [oI hb,hm]
 have K:m<(D b).n:=by rw [←hm];exact Nat.mod_lt _ hd1
 have HV:Hid (qn D n L x=ew (D b) (fun k=>L.getD (jk D n x b k).toNat noC) m):=by show _=_;rw [I2 h,hpm]
 have V:Hid (ndsX D n x=(uN (D b) m).map (jk D n x b)):=by show _=_;rw [pm h,hpm]
 have hSp:=iN (D:=D) (n:=n) (fun i hi=>(hd i hi).1) hb
 obtain ⟨S,Z⟩:=az (cA D n b);have HWy:Hid (∀ w',Bl w w'→Rt 80 #[.agg #[.int .i64 (D b).solve,.int .i64 S,.slice (X b).A (D b).n (X b).c],.int .i64 x] w' (wayV ((X b).xs.getD m eW))):=fun w' p=>tq (D b) S (X b) x m w' (by rw [←Z];exact hSp) hd1 hd12 (by omega) (by rw [←Z];exact hm) ((Y.later p).2.one hb).2.2
 have l:Hid (∀ w' A' o,Bl w w'→dx w' A' o ((ndsX D n x).map fun z=>L.getD z.toNat noC)→Rt 81 #[wayV ((X b).xs.getD m eW),.slice A' (ndsX D n x).length o] w' (.tuple #[.agg #[.int .i64 (qn D n L x).1,.int .i64 (qn D n L x).2],.nilIface])):=fun w' A' o p hCv=>by
  obtain ⟨-,-,hOne⟩:=(Y.later p).2.one hb;obtain ⟨-,-,-,-,-,hWt⟩:=hOne.way K;have hwo:=hOne.2.2 m K;have hne:=zt hwo;have h2:=GE (D b) m ((X b).xs.getD m eW) A' o (fun k=>L.getD (jk D n x b k).toNat noC) w' (hR b hb) K hwo hWt (fun k hk=>hok _ (by rw [V.out,List.mem_map];exact ⟨k,(nK (hR b hb) K k).2 hk,rfl⟩)) (by
   rw [V.out,List.map_map] at hCv;rw [hne];exact hCv)
  rw [hne,←HV.out] at h2;have hl2:(ndsX D n x).length=(uN (D b) m).length:=by rw [V.out,List.length_map]
  rw [hl2];exact h2
 have C:Hid (∀ w',Bl w w'→Calls Tryz.prog 79 #[.pointer (some ⟨q,0,none⟩),.int .i64 x] w' fun e w''=>(∃ v,e=.returned v∧w''.ownsRow w'.heap.size 3 1 v (ndsX D n x).length (aE (ndsX D n x)))∧Bl w' w''):=fun w' p=>mx q g n D X x w' hR hE hx (Y.later p)
 have HIn:Hid (∀ z∈ndsX D n x,∃ y:Nat,z=(y:Int)∧y<N):=fun z hz=>by
  obtain ⟨y,e1,e2⟩:=xO hR hE hx z hz;exact ⟨y,e1,by omega⟩
 have hln:=nJ hR hE hx;have HCx:Hid (∀ w',Bl w w'→g<w'.heap.size∧w'.cell? ⟨g,b*3,none⟩=some (.int .i64 (D b).solve)∧w'.cell? ⟨g,b*3+1,none⟩=some (.int .i64 S)∧w'.cell? ⟨g,b*3+2,none⟩=some (.slice (X b).A (D b).n (X b).c)):=fun w' p=>by
  obtain ⟨hg,⟨c0,c1,c2⟩,-⟩:=(Y.later p).2.one hb;rw [Z] at c1;exact ⟨hg,c0,c1,c2⟩
 obtain ⟨P,hPn⟩:=az (ndsX D n x);rw [hPn] at l C HIn hln;obtain ⟨F,hF⟩:=az ((fun z:Int=>L.getD z.toNat noC))
 have HFe:Hid (∀ z:Int,F z=L.getD z.toNat noC):=fun z=>by rw [←hF]
 rw [hF] at l;obtain ⟨⟨ra,rb⟩,s⟩:∃ R,qn D n L x=R:=⟨_,rfl⟩;rw [s] at l ⊢;simp only at l ⊢;obtain ⟨M,hMl⟩:=az P.length;have HM:=aa hMl;rw [hMl] at l C hln;have hMI:(M:Int)≤12:=by omega
 rw [h] at B;rw [hN] at q1 hx hp3 T U hL ⊢;have hxI:(x:Int)<(N:Int):=by omega
 have hNI:(N:Int)≤3000:=by omega
 have hcI:(N:Int)≤(cC:Int):=by omega
 have hbI:(b:Int)<(n:Int):=by omega
 have hb0:((b:Int) == -1)=false:=by simp
 generalize wayV ((X b).xs.getD m eW)=wv at HWy l;clear Y hE hR hP h hd hC u9 hok E H hp0 hp1 hm hpm K hSp Z hPn hMl V HV s hN hF
 go_enter Tryz.func39,Tryz.ntmps39
 go_wp2_with fail;refine B.mono ?_;rintro e w1 ⟨rfl,f⟩;have HB1:=aa f;have hnd:=C.out w1 (ae a.out f);clear f B q0 q1 hW;go_wp2_with fail;refine hnd.mono ?_;rintro e w2 ⟨⟨v,rfl,hO2⟩,hb2⟩;have HB2:=aa (ae HB1.out hb2);have HIt:Hid (∃ A' o,v=.slice A' M o∧aR w2 A' o P):=by
  have h2:=hO2;rw [←HM.out] at h2;obtain ⟨A',o,e,hv⟩:=bQ h2;rw [HM.out] at e;exact ⟨A',o,e,hv⟩
 obtain ⟨A2,c2,rfl,hI2⟩:=HIt.out;have HI2:=aa hI2;clear hb2 hnd hO2 hI2 HIt;go_wp2_with fail
 go_loopg [9,46] M (fun gg s9 s46 wr => ∃ (k:Nat) (u:Value),k≤M∧gg=M-k∧s46=.int .i64 k∧u=s9∧Hid (wr.ownsRow w2.heap.size 52 2 u k (bL ((P.take k).map F)))∧Hid (Bl w2 wr))
 case atStart=>exact ⟨0,_,zU,rfl,rfl,rfl,World.ownsRow_nil _ _ _ _,zS⟩
 case round =>
  obtain ⟨k,u,hk,rfl,rfl,rfl,HO,Q⟩:=hrel;have d:=aa (ae HB2.out Q.out)
  by_cases hlt:k<M
  ·have hki:(k:Int)<(M:Int):=by omega
   have hkP:k<P.length:=by rw [HM.out];exact hlt
   obtain ⟨y,hy,hyN⟩:=HIn.out _ (gl hkP);obtain ⟨hcS,-,hS0 | ⟨bs,cs,fr,rfl,hbS,hcl⟩⟩:=HI2.out.later Q.out
   ·have:=HM.out;rw [hS0] at this;simp at this;omega
   have cx:=hcl k hkP;have hbs:bs<wr.heap.size:=(zY hbS).1;rw [HM.out] at hcS;rw [hy] at cx;have hcSI:(M:Int)≤(c2:Int):=by omega
   have HSn:Hid ((P.take (k+1)).map F=(P.take k).map F ++ [L.getD y noC]):=by
    show _=_
    rw [Ft F P hkP,HFe.out,hy,Int.toNat_natCast]
   obtain ⟨hbc,I⟩:=T.out wr (ae a.out d.out);obtain ⟨y0,y1⟩:=I y hyN;have hyI:(y:Int)<(N:Int):=by omega
   generalize L.getD y noC=r at y0 y1 HSn;obtain ⟨sa,sb⟩:=r;simp only at y0 y1;have hsz2:=Q.out.size;clear hcl hbS hy I
   go_wp2_with (at_builtin;refine wpList_append_own _ rfl _ _ 45 rfl w2.heap.size 52 i0 (.agg #[.int .i64 0,.int .i64 0]) 2 16 Tryz.underlying45 hi0 hz0 hz1 hz2 rfl (by decide) _ _ _ rfl (HO.out.alloc _) ⟨wr.heap.size,0,none⟩ 1 1 [.int .i64 sa,.int .i64 sb] rfl rfl ?qe2 ?qe3 ?qe4 ?qe5 ?qe6 ?_)
   case qe2 =>
    intro j t hj;rw [pH,Lib.cell_of_heap (heap_alloc_new wr (.cells #[.int .i64 sa,.int .i64 sb] 52))]
    simpa using hj
   case qe3=>intro t ht;simp at ht;rcases ht with rfl | rfl <;> rfl
   case qe4=>simp only [maxLen];omega
   case qe5=>omega
   case qe6=>simp;omega
   intro v' w4 O J hnil;have HB4:Hid (Bl w2 w4):=bD Q.out HO.out J;have HO4:Hid (w4.ownsRow w2.heap.size 52 2 v' (k+1) (bL ((P.take (k+1)).map F))):=by
    show World.ownsRow ..
    rw [HSn.out,cellsC_append,List.map_take];exact O
   clear O J hnil;go_wp2_with fail
   go_roundg (M-(k+1))
   case measure=>omega
   case rel=>exact ⟨k+1,_,by omega,rfl,by go_num,rfl,HO4,HB4⟩
  have hke:k=M:=by omega
  subst hke;have HCv:Hid (∃ A' o,u=.slice A' k o∧dx wr A' o (P.map F)):=by
   have h:=HO.out;rw [List.take_of_length_le (by rw [HM.out];exact zT)] at h
   have hlen:(P.map F).length=k:=by rw [List.length_map];exact HM.out
   rw [←hlen] at h;obtain ⟨A',o,e,hv⟩:=zJ h;rw [hlen] at e;exact ⟨A',o,e,hv⟩
  obtain ⟨A3,c3,rfl,hC3⟩:=HCv.out;have HC3:=aa hC3;obtain ⟨hq1,p0,p1⟩:=U.out wr (ae a.out d.out);obtain ⟨hg1,a1,a2,a3⟩:=HCx.out wr (ae a.out d.out);have hwy:=HWy.out wr (ae a.out d.out);clear hC3 HCv;go_wp2_with fail;refine hwy.mono ?_;rintro e w5 ⟨rfl,hb5⟩;have HB5:=aa (ae d.out hb5);have htl:=l.out w5 A3 c3 (ae a.out HB5.out) (HC3.out.later hb5);clear hb5 hwy p0 p1 a1 a2 a3;go_wp2_with fail;refine htl.mono ?_;rintro e w6 ⟨rfl,hb6⟩;have HB6:=aa (ae HB5.out hb6);obtain ⟨hr,r0,r1,r2,r3⟩:=HRs.out w6 HB6.out;clear hb6 htl;go_wp2_with fail;refine bodyPost_ret (v:=.tuple #[.agg #[.int .i64 ra,.int .i64 rb],.nilIface]) (by simp [results,Tryz.results39,go_sem,r0,r1]) rfl ⟨rfl,?_⟩
  exact ((ae a.out HB6.out).setCell (by simp) _).setCell (by simp) _
inductive Rea (nx:Nat→List Int) (S:List Int):Int→Prop
 | base {x:Int}:x∈S→Rea nx S x
 | step {y:Nat} {x:Int}:Rea nx S (y:Int)→x∈nx y→Rea nx S x
def zC (N:Nat) (L:List Int):Prop := ∀ z∈L,∃ y:Nat,z=(y:Int)∧y<N
theorem AG {N:Nat} {L:List Int} (h:zC N L) (a:L.Nodup):L.length≤N:=few N L a fun x b=>by
 obtain ⟨y,rfl,c⟩:=h x b
 omega
structure ReI (nx:Nat→List Int) (S L:List Int) (k:Nat):Prop where
 nd:L.Nodup
 got:∀ z∈L,Rea nx S z
 beg:∀ z∈S,z∈L
 clo:∀ j,j<k→∀ z∈nx (L.getD j 0).toNat,z∈L
theorem ReI.all {nx:Nat→List Int} {S L:List Int} (h:ReI nx S L L.length):∀ z,z∈L↔Rea nx S z:=by
 intro z;refine ⟨h.got z,fun b=>?_⟩
 induction b with
 | base hx=>exact h.beg _ hx
 | @step y x _ hx ih =>
  obtain ⟨j,a,e⟩:=List.getElem_of_mem ih;have:=h.clo j a;rw [zZ,zX a,Option.getD_some,e,Int.toNat_natCast] at this;exact this _ hx
theorem ReI.next {nx:Nat→List Int} {S L L':List Int} {k y:Nat} (h:ReI nx S L k) (i:k<L.length) (g:L.getD k 0=(y:Int)) (m:L <+: L') (l:L'.Nodup) (c:∀ z,z∈L'↔z∈L∨z∈nx y):ReI nx S L' (k+1):=by
 obtain ⟨M,rfl⟩:=m;have b:∀ j,j<L.length→(L ++ M).getD j 0=L.getD j 0:=fun j f=>by
  rw [zZ,zZ,List.getElem?_append_left f]
 refine ⟨l,fun z a=>?_,fun z a=>(c z).2 (Or.inl (h.beg z a)),fun j f z a=>?_⟩
 ·rcases (c z).1 a with h1 | h1
  ·exact h.got z h1
  have d:=h.got _ (gl i);rw [g] at d;exact .step d h1
 rw [b j (by omega)] at a
 refine (c z).2 ?_
 by_cases e:j=k
 ·subst e
  rw [g,Int.toNat_natCast] at a;exact Or.inr a
 exact Or.inl (h.clo j (by omega) z a)
theorem ReI.first {nx:Nat→List Int} {S L:List Int} (d:L.Nodup) (b:∀ z,z∈L↔z∈([]:List Int)∨z∈S):ReI nx S L 0 :=
 ⟨d,fun z a=>.base (by simpa using (b z).1 a),fun z a=>(b z).2 (Or.inr a),fun j c=>absurd c (Nat.not_lt_zero _)⟩
theorem Jx {nx:Nat→List Int} {S:List Int} {N:Nat} (a:zC N S) (b:∀ y,y<N→zC N (nx y)) {z:Int} (h:Rea nx S z):∃ y:Nat,z=(y:Int)∧y<N:=by
 induction h with
 | base h=>exact a _ h
 | @step y x _ h ih =>
  obtain ⟨d,e,c⟩:=ih;have:y=d:=by omega
  subst this;exact b y c _ h
def GY (L:List Int):DataW Unit:=Maps.setOf (.agg []) (L.map (Lit.int .i64))
theorem zG (x:Int):∀ l:List Int,l.any ((fun y:Lit=>y.sameKey (.int .i64 x)) ∘ Lit.int .i64)=l.contains x
 | []=>rfl
 | a :: r=>by
  rw [List.any_cons,List.contains_cons,zG x r]
  congr 1
  show decide (IntKind.i64=IntKind.i64∧a=x)=(x == a)
  by_cases e:a=x
  ·subst e
   simp
  have e' : ¬ x=a:=fun h=>e h.symm
  simp [e,e']
theorem Hq (L:List Int) (x:Int):Maps.has (GY L) (.int .i64 x)=L.contains x:=by
 unfold GY;rw [Maps.has_setOf _ _ _ (fun y a=>by obtain ⟨_,_,rfl⟩:=List.mem_map.1 a;trivial),List.any_map]
 exact zG x _
theorem Ec (L:List Int) (x:Int):GY (L ++ [x])=(GY L).put (.int .i64 x) (.agg []):=by
 unfold GY;rw [List.map_append,List.map_singleton,Maps.setOf_snoc]
theorem o6:Maps.Keyed Tryz.prog 3:=Maps.int_keyed Tryz.underlying3
theorem rV (w:World):(zeroValue 223).run Tryz.prog w=.ok (.agg #[]) w:=by kernel_rfl
structure RS (w:World) (B bS bF bM:Nat) (v:Value) (L:List Int):Prop where
 hS:w.heap[bS]?=some (.cells #[.map (some bM)] 222 (0,0))
 hF:w.heap[bF]?=some (.cells #[v] 26 (0,0))
 hM:w.ownsMap Tryz.prog 3 (unitElem (H:=Unit)) bM L.length (GY L)
 own:w.ownsRow B 3 1 v L.length (aE L)
 lS:B≤bS
 lF:B≤bF
 lM:B≤bM
section
variable {w w':World} {B bS bF bM:Nat} {v:Value} {L:List Int}
theorem RS.later (h:RS w B bS bF bM v L) (a:Bl w w'):RS w' B bS bF bM v L :=
 ⟨(a.block _ (zY h.hS).1).trans h.hS,(a.block _ (zY h.hF).1).trans h.hF,h.hM.kept (dF (r:=none) a) (by simp),an h.own a,h.lS,h.lF,h.lM⟩
theorem RS.cells (h:RS w B bS bF bM v L):w.cell? ⟨bS,0,none⟩=some (.map (some bM))∧w.cell? ⟨bF,0,none⟩=some v∧w.frozen? ⟨bF,0,none⟩=false∧bS<w.heap.size∧bF<w.heap.size :=
 ⟨by simp [World.cell?,h.hS],by simp [World.cell?,h.hF],by simp [World.frozen?,h.hF],(zY h.hS).1,(zY h.hF).1⟩
theorem RS.map (h:RS w B bS bF bM v L):∃ b a,w.heap[bM]?=some (.map b a):=by
 obtain ⟨b,a,c,-⟩:=h.hM;exact ⟨b,a,c⟩
theorem RS.ne (h:RS w B bS bF bM v L):bS≠bM∧bF≠bM∧bS≠bF∧(∀ b,v.ownBlock=some b→b≠bS∧b≠bF∧b≠bM):=by
 obtain ⟨j,i,d⟩:=h.map;refine ⟨fun e=>?_,fun e=>?_,fun e=>?_,fun b g=>?_⟩
 ·have a:=h.hS;rw [e,d] at a;simp at a
 ·have a:=h.hF;rw [e,d] at a;simp at a
 ·have a:=h.hS;rw [e,h.hF] at a;simp at a
 obtain ⟨-,-,f,c⟩:=bP h.own g;refine ⟨fun e=>?_,fun e=>?_,fun e=>?_⟩
 ·rw [e,h.hS] at c;simp at c
 ·rw [e,h.hF] at c;simp at c
 rw [e,d] at c;simp at c
theorem RS.made (w:World):RS (((w.alloc (.cells #[.slice none 0 0] 26)).alloc (.map #[] 0)).alloc (.cells #[.map (some (w.heap.size+1))] 222)) w.heap.size (w.heap.size+2) w.heap.size (w.heap.size+1) (.slice none 0 0) []:=by
 have a:(w.alloc (.cells #[.slice none 0 0] 26)).heap.size=w.heap.size+1:=by simp
 have b:((w.alloc (.cells #[.slice none 0 0] 26)).alloc (.map #[] 0)).heap.size=w.heap.size+2:=by simp
 refine ⟨?_,?_,?_,World.ownsRow_nil _ _ _ _,by omega,zT,by omega⟩
 ·have h:=heap_alloc_new ((w.alloc (.cells #[.slice none 0 0] 26)).alloc (.map #[] 0)) (.cells #[.map (some (w.heap.size+1))] 222)
  rw [b] at h;exact h
 ·rw [heap_alloc_old _ _ (by omega),heap_alloc_old _ _ (by omega)]
  exact heap_alloc_new w _
 have h:=World.ownsMap_made (w.alloc (.cells #[.slice none 0 0] 26)) Tryz.prog 3 (unitElem (H:=Unit));rw [a] at h;exact h.alloc _
theorem RS.mid (h:RS w B bS bF bM v L) {wa w1:World} (a:Bl w wa) (c:wa.grownBy w1 (some bM)):w1.heap[bS]?=w.heap[bS]?∧w1.heap[bF]?=w.heap[bF]?∧w1.ownsRow B 3 1 v L.length (aE L):=by
 obtain ⟨n1,n2,n3,n4⟩:=h.ne;have d:=(zY h.hS).1;have f:=(zY h.hF).1;have i:=a.size;refine ⟨(c.block _ (by omega) (by simpa using n1)).trans (a.block _ d),(c.block _ (by omega) (by simpa using n2)).trans (a.block _ f),iI (an h.own a) c fun b g e=>?_⟩
 cases e;exact (n4 _ g).2.2 rfl
theorem RS.push (h:RS w B bS bF bM v L) {wa w1 wb w2:World} {x:Int} {v':Value} (i:Bl w wa) (g:w1.ownsMap Tryz.prog 3 (unitElem (H:=Unit)) bM (L.length+1) ((GY L).put (.int .i64 x) (.agg []))) (f:wa.grownBy w1 (some bM)) (b:Bl w1 wb)
  (c:w2.ownsRow B 3 1 v' (L.length+1) (aE L ++ [.int .i64 x])) (a:wb.grownBy w2 v.ownBlock):w2.cell? ⟨bF,0,none⟩=some v∧w2.frozen? ⟨bF,0,none⟩=false∧bF<w2.heap.size∧RS (w2.setCell ⟨bF,0,none⟩ v') B bS bF bM v' (L ++ [x]):=by
 obtain ⟨n1,n2,n3,n4⟩:=h.ne;obtain ⟨m1,m2,m3⟩:=h.mid i f;have j:=(zY (m1.trans h.hS)).1;have k:=(zY (m2.trans h.hF)).1;have p:=b.size;have n:=a.size;have o:w2.heap[bS]?=some (.cells #[.map (some bM)] 222 (0,0)):=((a.block _ (by omega) fun e=>(n4 _ e.symm).1 rfl).trans (b.block _ j)).trans (m1.trans h.hS)
 have d:w2.heap[bF]?=some (.cells #[v] 26 (0,0)):=((a.block _ (by omega) fun e=>(n4 _ e.symm).2.1 rfl).trans (b.block _ k)).trans (m2.trans h.hF)
 refine ⟨by simp [World.cell?,d],by simp [World.frozen?,d],(zY d).1,?_,?_,?_,?_,h.lS,h.lF,h.lM⟩
 ·rw [ar _ _ _ _ _ n3]
  exact o
 ·simp [World.setCell,Array.getElem?_modify,d]
 ·rw [Ec,List.length_append,List.length_singleton]
  exact (((g.kept (dF (r:=none) b) (by simp)).kept a fun e=>(n4 _ e.symm).2.2 rfl)).setCell (Ne.symm n2) _
 rw [List.length_append,List.length_singleton,mapI_snoc];refine fj c fun e=>?_
 obtain ⟨-,-,m,l⟩:=bP c e;rw [d] at l
 simp at l
theorem kV {W0 w w':World} {r:Option Nat} (h:Bl W0 w) (a:w.grownBy w' r) (d:∀ b,r=some b→W0.heap.size≤b):Bl W0 w' :=
 ⟨a.os.trans h.os,a.tape.trans h.tape,a.output.trans h.output,zV h.size a.size,fun b c=>(a.block b (zW c h.size) (fun e=>by have:=d b e.symm;omega)).trans (h.block b c)⟩
end
def RM (w:World) (W0:World) (bS bF bM N:Nat) (L:List Int) (A:Option Addr) (c:Nat) (T:List Int) (k:Nat) (v:Value) (L':List Int):Prop:=RS w W0.heap.size bS bF bM v L'∧L <+: L'∧L'.Nodup∧zC N L'∧(∀ z,z∈L'↔z∈L∨z∈T.take k)∧aR w A c T∧(∀ a,A=some a→v.ownBlock≠some a.block)∧Bl W0 w
section
variable {w W0:World} {bS bF bM N:Nat} {L:List Int} {A:Option Addr} {c:Nat} {T:List Int} {k:Nat} {v:Value} {L':List Int}
theorem RM.old (h:RM w W0 bS bF bM N L A c T k v L') (d:k<T.length) (e:T.getD k 0∈L') {wa:World} (a:Bl w wa):RM wa W0 bS bF bM N L A c T (k+1) v L':=by
 obtain ⟨f,g,i,j,b,l,m,n⟩:=h;refine ⟨f.later a,g,i,j,fun z=>?_,l.later a,m,ae n a⟩
 rw [b z,List.take_succ_eq_append_getElem d,List.mem_append,List.mem_singleton]
 constructor
 ·intro h
  exact h.imp id Or.inl
 rintro (h | h | h)
 ·exact Or.inl h
 ·exact Or.inr h
 rw [zZ,zX d,Option.getD_some,←h] at e;exact (b z).1 e
theorem RM.new (h:RM w W0 bS bF bM N L A c T k v L') (p:k<T.length) {y:Nat} (F:T.getD k 0=(y:Int)) (C:y<N) (O:(y:Int)∉L') {wa w1 wb w2:World} {v':Value} (f:Bl w wa) (B:w1.ownsMap Tryz.prog 3 (unitElem (H:=Unit)) bM (L'.length+1) ((GY L').put (.int .i64 (y:Int)) (.agg []))) (d:wa.grownBy w1 (some bM)) (g:Bl w1 wb)
  (s:w2.ownsRow W0.heap.size 3 1 v' (L'.length+1) (aE L' ++ [.int .i64 (y:Int)])) (m:wb.grownBy w2 v.ownBlock) (t:v'.ownBlock=v.ownBlock∨v'.ownBlock=some wb.heap.size):w2.cell? ⟨bF,0,none⟩=some v∧w2.frozen? ⟨bF,0,none⟩=false∧bF<w2.heap.size∧RM (w2.setCell ⟨bF,0,none⟩ v') W0 bS bF bM N L A c T (k+1) v' (L' ++ [(y:Int)]):=by
 obtain ⟨l,⟨M,rfl⟩,i,G,I,r,D,J⟩:=h;obtain ⟨p1,p2,p3,p4⟩:=l.push f B d g s m;obtain ⟨n1,n2,n3,n4⟩:=l.ne;have u:Bl W0 w1:=kV (ae J f) d fun b e=>by cases e;exact l.lM
 have x:Bl W0 w2:=kV (ae u g) m fun b e=>(bP l.own e).1
 have keep:∀ a,A=some a→T≠[]→(w2.setCell ⟨bF,0,none⟩ v').heap[a.block]?=w.heap[a.block]?:=fun a j o=>by
  obtain ⟨-,-,q | ⟨b,cs,fr,n,i,-⟩⟩:=r
  ·exact absurd q o
  rw [j] at n;cases n;have lt:=(zY i).1;have S:=f.size;have U:=d.size;have V:=g.size;have Q:b≠bF:=fun e=>by rw [e,l.hF] at i;simp at i
  have R:b≠bM:=fun e=>by obtain ⟨X,W,K⟩:=l.map;rw [e,K] at i;simp at i
  show (w2.setCell ⟨bF,0,none⟩ v').heap[b]?=w.heap[b]?
  rw [ar _ _ _ _ _ Q];exact (((m.block b (by omega) fun e=>D _ j e.symm).trans (g.block b (by omega))).trans (d.block b (by omega) (by simpa using R))).trans (f.block b lt)
 have o:T≠[]:=fun e=>by rw [e] at p;simp at p
 refine ⟨p1,p2,p3,p4,⟨M ++ [(y:Int)],by rw [List.append_assoc]⟩,?_,?_,fun z=>?_,r.one fun a j=>keep a j o,fun a j e=>?_,x.setCell l.lF _⟩
 ·rw [List.nodup_append]
  exact ⟨i,by simp,fun a j b E e=>by simp at E;subst E;subst e;exact O j⟩
 ·intro z P
  rcases List.mem_append.1 P with h | h
  ·exact G z h
  exact ⟨y,by simpa using h,C⟩
 ·rw [List.mem_append,I z,List.take_succ_eq_append_getElem p,List.mem_append,List.mem_singleton,List.mem_singleton]
  rw [zZ,zX p,Option.getD_some] at F;rw [F];exact or_assoc
 rcases t with h | h
 ·exact D a j (h.symm.trans e)
 obtain ⟨-,-,q | ⟨b,cs,fr,n,i,-⟩⟩:=r
 ·exact o q
 rw [j] at n;cases n;have lt:=(zY i).1;have S:=f.size;have U:=d.size;have V:=g.size;rw [h] at e
 simp at e
 omega
end
theorem EW (args:Array Value) (w:World):(callFunc 133 args).run Tryz.prog w=.ok (.enter 133 args) w:=by simp [go_sem]
theorem uI (W0:World) (bS bF bM N:Nat) (v:Value) (L:List Int) (A:Option Addr) (c:Nat) (T:List Int) (w:World) (hN:N≤3000) (u9:T.length≤3000) (G:zC N T) (h0:RM w W0 bS bF bM N L A c T 0 v L) :
  Calls Tryz.prog 133 #[.slice A T.length c,.pointer (some ⟨bS,0,none⟩),.pointer (some ⟨bF,0,none⟩)] w fun e w'=>e=.returned (.tuple #[])∧∃ v' L',RM w' W0 bS bF bM N L A c T T.length v' L':=by
 obtain ⟨i0,K3,K8,K9,La⟩:=info_parts Tryz.infoInt;have V:=aa G;have U:=aa h0;obtain ⟨tl,z⟩:=az T.length;have D:=aa z;rw [z] at u9 ⊢;have htI:(tl:Int)≤3000:=by omega
 clear h0 G z
 go_enter Tryz.func133,Tryz.ntmps133
 go_wp2_with fail
 go_loopg [10] tl (fun gg s10 wr => ∃ (k:Nat),k≤tl∧gg=tl-k∧s10=.int .i64 k∧Hid (∃ v' L',RM wr W0 bS bF bM N L A c T k v' L'))
 case atStart=>exact ⟨0,zU,rfl,rfl,⟨v,L,U.out⟩⟩
 case round =>
  obtain ⟨k,hk,rfl,rfl,HK⟩:=hrel
  by_cases K6:k<tl
  ·have hki:(k:Int)<(tl:Int):=by omega
   have l:k<T.length:=by rw [D.out];exact K6
   obtain ⟨v1,L1,hR⟩:=HK.out;have B:=aa hR;obtain ⟨y,O,K7⟩:=V.out _ (gl l);obtain ⟨F,-,x,u,-,K2,-,r⟩:=hR;obtain ⟨c0,c1,f1,hbs,hbf⟩:=F.cells;obtain ⟨K0,-,Z | ⟨bt,cs,fr,rfl,s,t⟩⟩:=K2
   ·rw [Z] at l;simp at l
   have cx:=t k l;have hbt:bt<wr.heap.size:=(zY s).1;rw [D.out] at K0;rw [O] at cx;have hcSI:(tl:Int)≤(c:Int):=by omega
   have hyI:(y:Int)<3000:=by omega
   have K5:=AG u x;have b:=F.hM;have n:keyOf Tryz.prog 3 (.int .i64 (y:Int))=some (.int .i64 (y:Int)):=Maps.keyOf_int_mk Tryz.underlying3 (WalkArith.wf_i64 (by omega))
   have i:=Hq L1 (y:Int);obtain ⟨AO,M,hv⟩:∃ AO M,v1=.slice AO L1.length M:=by
    rcases F.own.2 with ⟨Y,h2⟩ | ⟨g,cap,X,Y,-⟩
    ·exact ⟨none,0,by rw [Y,h2]⟩
    exact ⟨_,_,Y⟩
   have hBs:W0.heap.size≤wr.heap.size:=r.size;have HY:=aa O
   by_cases C:(y:Int)∈L1
   ·have hh:Maps.has (GY L1) (.int .i64 (y:Int))=true:=by rw [i];exact List.contains_iff_mem.2 C
    have P:Hid (∀ wa,Bl wr wa→RM wa W0 bS bF bM N L (some ⟨bt,0,none⟩) c T (k+1) v1 L1):=fun wa o=>B.out.old l (by rw [HY.out];exact C) o
    clear F x u t s i O r hv C
    go_wp2_with (at_lookup;refine wpList_lookup_own_unit _ rfl _ _ 222 rfl 3 223 o6 Tryz.underlying222 (rV _) bM _ _ rfl b _ _ rfl n ?_)
    go_roundg (tl-(k+1))
    case measure=>omega
    case rel=>exact ⟨k+1,by omega,rfl,by go_num,⟨v1,L1,P.out _ (by go_grown)⟩⟩
   have hh:Maps.has (GY L1) (.int .i64 (y:Int))=false:=by rw [i];exact Bool.eq_false_iff.2 fun h=>C (List.contains_iff_mem.1 h)
   subst hv;have p:Hid (∀ wa w1,Bl wr wa→wa.grownBy w1 (some bM)→w1.cell? ⟨bF,0,none⟩=some (.slice AO L1.length M)∧w1.ownsRow W0.heap.size 3 1 (.slice AO L1.length M) L1.length (aE L1)∧bF<w1.heap.size∧W0.heap.size≤w1.heap.size):=fun wa w1 o j=>by
    obtain ⟨-,m2,m3⟩:=B.out.1.mid o j;have s1:=o.size;have s2:=j.size;have s3:=B.out.2.2.2.2.2.2.2.size;have s4:=B.out.1.cells.2.2.2.2;exact ⟨(World.cell?_of_block (a:=⟨bF,0,none⟩) m2).trans B.out.1.cells.2.1,m3,by omega,by omega⟩
   have q:=aa (fun wa w1 wb w2 v'=>B.out.new l HY.out K7 C (wa:=wa) (w1:=w1) (wb:=wb) (w2:=w2) (v':=v'))
   have f:=b.alloc (.cells #[] 223);obtain ⟨ln,J⟩:=az L1.length;rw [J] at b f c1 p q K5;have hlnI:ln≤3000:=by omega
   clear F x u t s i O r C J
   go_wp2_with (first
    | (at_lookup;refine wpList_lookup_own_unit _ rfl _ _ 222 rfl 3 223 o6 Tryz.underlying222 (rV _) bM _ _ rfl b _ _ rfl n ?_)
    | (at_mapUpdate;refine wpList_mapUpdate_own _ rfl _ _ _ 222 rfl 3 223 o6 Tryz.underlying222 (unitElem (H:=Unit)) bM ln _ rfl f (by unfold maxLen;omega) _ _ _ rfl rfl n _ [] unitElem_mk ?_))
   intro w1 K j;obtain ⟨x1,x2,x3,x4⟩:=p.out _ _ (by go_grown) j
   have S:=aa x2;have Q:=aa j;have R:=aa K;clear x2 j K b f c0 c1 f1
   go_wp2_with (at_builtin;refine wpList_append_own_at _ rfl _ _ 26 rfl W0.heap.size 3 i0 (.int .i64 0) 1 8 Tryz.underlying26 K3 K8 K9 La rfl (by decide) _ _ _ rfl (S.out.alloc _) ⟨w1.heap.size,0,none⟩ 1 1 [.int .i64 y] rfl rfl bz dG (by unfold maxLen;omega) (by omega) (by simp;omega) ?_)
   intro v' w2 d m _ I;obtain ⟨A',W,rfl⟩:∃ A' W,v'=.slice A' (ln+1) W:=by
    rcases d.2 with ⟨-,h⟩ | ⟨g',W,X,h,-⟩
    ·omega
    exact ⟨_,_,h⟩
   obtain ⟨y1,y2,y3,E⟩:=q.out _ _ _ _ _ (by go_grown) R.out Q.out (by go_grown) d m (I.imp id fun h=>by rw [h];simp)
   have P:=aa E;clear d m I E x1 x3 x4;go_wp2_with fail
   go_roundg (tl-(k+1))
   case measure=>omega
   case rel=>exact ⟨k+1,by omega,rfl,by go_num,⟨_,_,P.out⟩⟩
  have K4:k=tl:=by omega
  subst K4;go_wp2_with fail
  first | go_end0 | refine bodyPost_ret (results_none rfl _ _ _) rfl ?_
  exact ⟨rfl,HK.out⟩
end Go.Proofs.YtohgnbgamfepoaaGreatDoor
namespace Go.Proofs.YtohgnbgamfepoaaGreatDoor
open Go.ChangeShapes Go.WideShapes Go.ChangeAt Go.RowKit
open Go.Sort (putRow Holds grow holds_putRow)
set_option maxRecDepth 20000
theorem xo (w:World) (os:Array Obj):Bl w (grow w os):=⟨rfl,rfl,rfl,by simp,fun k a=>Sort.heap_grow_old _ _ a⟩
theorem yY {w:World} {base g n cap q:Nat} {zs ys:List Int} {os:Array Obj} (h:w.ownsRow base 3 1 (.slice (some ⟨g,0,none⟩) n cap) n (aE zs)) (b:ys.length=n):(grow (putRow (Value.int .i64) (Sort.ahead w q) g 0 ys.toArray) os).ownsRow base 3 1 (.slice (some ⟨g,0,none⟩) n cap) n (aE ys):=by
 have a:=Lib.ownsRow_putRow (enc:=Value.int .i64) (q:=q) (zs:=zs) (ys:=ys) (k:=n) h b (zT);rw [List.take_of_length_le (by omega)] at a
 exact an a (xo _ _)
theorem qa {w:World} {g n b:Nat} {d:Array Int} {os:Array Obj} (a:b<w.heap.size) (c:b≠g):(grow (putRow (Value.int .i64) (Sort.ahead w n) g 0 d) os).heap[b]?=w.heap[b]?:=by
 rw [Sort.heap_grow_old _ _ (by simpa using a),vu c]
 rfl
theorem JC {L:List Int} (h:L.Nodup):(L.mergeSort fun a b=>decide (a≤b)).Pairwise (· < ·):=by
 have c:List.Pairwise (fun a b=>a≠b) (L.mergeSort fun a b=>decide (a≤b)):=(List.mergeSort_perm _ _).symm.pairwise h fun {a b} h e=>h e.symm
 exact ((lN _).and c).imp fun h=>by omega
def RK (w:World) (W0:World) (bS bF bM N:Nat) (nx:Nat→List Int) (S:List Int) (k:Nat) (v:Value) (L:List Int):Prop:=RS w W0.heap.size bS bF bM v L∧ReI nx S L k∧k≤L.length∧zC N L∧Bl W0 w
theorem xS (F:Nat) (fa cp:Array Value) (nx:Nat→List Int) (N:Nat) (hent:∀ (args:Array Value) (w:World),(callFunc F args).run Tryz.prog w=.ok (.enter F args) w) (A:Option Addr) (c:Nat) (S:List Int) (w:World) (hN:N≤3000) (K4:S.length≤3000) (hS:aR w A c S) (K3:zC N S) (La:∀ y,y<N→zC N (nx y)) (Lb:∀ y,y<N→(nx y).length≤3000)
  (hF:∀ (y:Nat) (w':World),y<N→Bl w w'→Calls Tryz.prog F (fa ++ #[.int .i64 y] ++ cp) w' fun e w''=>(∃ A' i,e=.returned (.tuple #[.slice A' (nx y).length i,.nilIface])∧aR w'' A' i (nx y)∧∀ a,A'=some a→a.block<w.heap.size∨w'.heap.size≤a.block)∧Bl w' w'') :
  Calls Tryz.prog 99 #[.slice A S.length c,.func (.func F) fa cp] w fun e w'=>(∃ v L,e=.returned (.tuple #[v,.nilIface])∧w'.ownsRow w.heap.size 3 1 v L.length (aE L)∧L.Pairwise (· < ·)∧∀ z,z∈L↔Rea nx S z)∧Bl w w':=by
 have hmm := @run_makeMap Tryz.prog;have E:=RS.made w;obtain ⟨W,hW⟩:=az (((w.alloc (.cells #[.slice none 0 0] 26)).alloc (.map #[] 0)).alloc (.cells #[.map (some (w.heap.size+1))] 222));have O:Bl w W:=by rw [←hW];go_grown
 rw [hW] at E;rw [show w.heap.size+2=w.heap.size+1+1 from rfl] at E
 have P:=uI w (w.heap.size+1+1) w.heap.size (w.heap.size+1) N (.slice none 0 0) [] A c S W hN K4 K3 ⟨E,List.prefix_refl _,List.nodup_nil,fun z hz=>(by cases hz),fun z=>(by simp),hS.later O,fun a ha e=>(by cases e),O⟩
 have HMt:Hid (∀ v L A' i T w',T.length≤3000→zC N T→RM w' w (w.heap.size+1+1) w.heap.size (w.heap.size+1) N L A' i T 0 v L→Calls Tryz.prog 133 #[.slice A' T.length i,.pointer (some ⟨w.heap.size+1+1,0,none⟩),.pointer (some ⟨w.heap.size,0,none⟩)] w' fun e w''=>e=.returned (.tuple #[])∧∃ v' L',RM w'' w (w.heap.size+1+1) w.heap.size (w.heap.size+1) N L A' i T T.length v' L'):=fun v L A' i T w' Y h2 h3=>uI w _ _ _ N v L A' i T w' hN Y h2 h3
 have HXi:=aa La;have HXl:=aa Lb;have HF:=aa hF;have HN3:=aa hN;obtain ⟨sl,R⟩:=az S.length;have HSl:=aa R;rw [R] at P ⊢;have hem:=EW;clear E O hF La Lb hS K3 R K4
 go_enter Tryz.func99,Tryz.ntmps99
 go_wp2_with fail;refine P.mono ?_;rintro e w1 ⟨rfl,v1,L1,u9⟩;have HK1:Hid (∃ v L,RK w1 w (w.heap.size+1+1) w.heap.size (w.heap.size+1) N nx S 0 v L):=by
  obtain ⟨r1,r2,r3,r4,r5,r6,r7,r8⟩:=u9;refine ⟨v1,L1,r1,ReI.first r3 fun z=>?_,zU,r4,r8⟩
  rw [r5 z,←HSl.out,List.take_length]
 clear u9 P hW;go_wp2_with fail
 go_loopg [9] N (fun gg s9 wr => ∃ (k:Nat),k≤N∧gg=N-k∧s9=.int .i64 k∧Hid (∃ v L,RK wr w (w.heap.size+1+1) w.heap.size (w.heap.size+1) N nx S k v L))
 case atStart=>exact ⟨0,zU,rfl,rfl,HK1⟩
 case round =>
  obtain ⟨k,hk,rfl,rfl,HK⟩:=hrel;obtain ⟨v,L,K2⟩:=HK.out;have HR:=aa K2;obtain ⟨f,o,hkL,r,m⟩:=K2;obtain ⟨c0,c1,f1,hbs,K6⟩:=f.cells;have hLN:=AG r o.nd;obtain ⟨AO,u,hv⟩:∃ AO u,v=.slice AO L.length u:=by
   rcases f.own.2 with ⟨Y,h2⟩ | ⟨g,cap,cur,Y,-⟩
   ·exact ⟨none,0,by rw [Y,h2]⟩
   exact ⟨_,_,Y⟩
  subst hv;obtain ⟨ln,K8⟩:=az L.length;have j:=aa K8;rw [K8] at c1 hkL hLN;have hlnI:(ln:Int)≤3000:=by omega
  by_cases hlt:k<ln
  ·have hki:(k:Int)<(ln:Int):=by omega
   have s:k<L.length:=by rw [j.out];exact hlt
   obtain ⟨y,hy,X⟩:=r _ (gl s);obtain ⟨A1,c1',e1,hI1⟩:=bQ f.own;cases e1;obtain ⟨hcS,-,hS0 | ⟨bt,cs,fr,rfl,K5,K7⟩⟩:=hI1
   ·rw [hS0] at s;simp at s
   have cx:=K7 k s;have hbt:bt<wr.heap.size:=(zY K5).1;rw [j.out] at hcS;rw [hy] at cx;have hcSI:(ln:Int)≤(u:Int):=by omega
   have hf:=HF.out y wr X m;have V:=HXl.out y X;obtain ⟨T,hT⟩:=az (nx y);rw [hT] at hf V;have HT:=aa hT;have K:Hid (∀ A' i w3,Bl wr w3→aR w3 A' i T→(∀ a,A'=some a→a.block<w.heap.size∨wr.heap.size≤a.block)→RM w3 w (w.heap.size+1+1) w.heap.size (w.heap.size+1) N L A' i T 0 (.slice (some ⟨bt,0,none⟩) L.length u) L):=fun A' i w3 q D C=>by
    obtain ⟨g1,g2,g3,g4,g5⟩:=HR.out;refine ⟨g1.later q,List.prefix_refl _,g2.nd,g4,fun z=>by simp,D,fun a ha e=>?_,ae g5 q⟩
    have Y:=bP g1.own e
    rcases C a ha with h | h
    ·omega
    omega
   have H:Hid (∀ A' i w4 v' L',RM w4 w (w.heap.size+1+1) w.heap.size (w.heap.size+1) N L A' i T T.length v' L'→∃ v L,RK w4 w (w.heap.size+1+1) w.heap.size (w.heap.size+1) N nx S (k+1) v L):=fun A' i w4 v' L' h=>by
    obtain ⟨r1,r2,r3,r4,r5,r6,r7,r8⟩:=h;obtain ⟨g1,g2,g3,g4,g5⟩:=HR.out;refine ⟨v',L',r1,g2.next s hy r2 r3 fun z=>?_,?_,r4,r8⟩
    ·rw [r5 z,List.take_length,HT.out]
    have:=r2.length_le
    omega
   have HTi:Hid (zC N T):=by rw [←hT];exact HXi.out y X
   obtain ⟨tl,U⟩:=az T.length;have M:=aa U;rw [U] at hf V;have hty:(y:Int)<3000:=by have:=HN3.out;omega
   clear f o r m K7 K5 hy hT U f1;go_wp2_with fail;refine hf.mono ?_;rintro e w3 ⟨⟨A',i,rfl,D,C⟩,q⟩;have Q:=HMt.out _ L A' i T w3 (by rw [M.out];exact V) HTi.out (K.out A' i w3 q D C)
   rw [M.out] at Q;clear hf D C q;go_wp2_with fail;refine Q.mono ?_;rintro e w4 ⟨rfl,v',L',K0⟩;have HK4:=aa (H.out A' i w4 v' L' (by rw [M.out];exact K0))
   clear Q K0;go_wp2_with fail
   go_roundg (N-(k+1))
   case measure=>omega
   case rel=>exact ⟨k+1,by omega,rfl,by go_num,HK4⟩
  have hke:k=ln:=by omega
  subst hke;have G:Hid (∀ z,z∈L↔Rea nx S z):=by
   have h:=o;rw [←j.out] at h;exact h.all
  have I:Hid ((L.mergeSort fun a b=>decide (a≤b)).Pairwise (· < ·)):=JC o.nd
  have J:Hid (∀ z,z∈(L.mergeSort fun a b=>decide (a≤b))↔z∈L):=fun z=>(List.mergeSort_perm _ _).mem_iff
  have B:Hid ((L.mergeSort fun a b=>decide (a≤b)).length=k):=by show _=_;rw [List.length_mergeSort];exact j.out
  by_cases hz:Value.slice AO k u=.slice none 0 0
  ·cases hz
   have p:=Any.slices_Sort_int_none Tryz.lays189 none 0 wr;have HZ0:Hid ((L.mergeSort fun a b=>decide (a≤b))=[]):=List.eq_nil_of_length_eq_zero B.out
   have HBw:=aa m;clear f o r m f1;go_wp2_with fail;refine Calls.mono p ?_;rintro e w4 ⟨rfl,rfl⟩;go_wp2_with fail;go_returns;refine ⟨⟨_,L.mergeSort fun a b=>decide (a≤b),rfl,by rw [HZ0.out];exact World.ownsRow_nil _ _ _ _,I.out,fun z=>(J.out z).trans (G.out z)⟩,HBw.out⟩
  have hO:=f.own;rw [j.out] at hO;obtain ⟨gg,cc,hv2,hgb,hgl,hnc,hcm,-,hH⟩:=Lib.holds_of_ownsRow (enc:=Value.int .i64) (zs:=L) hO hz;cases hv2;have p:=Any.slices_Sort_int Tryz.lays189 gg 0 u L wr hH hgl (by have:=j.out;omega)
  rw [j.out] at p;obtain ⟨ys,Lc⟩:=az ((L.mergeSort fun x y=>decide (x≤y)))
  rw [Lc] at p I J B;have K9:w.heap.size≠gg:=fun e=>(f.ne.2.2.2 gg rfl).2.1 e.symm
  have HOs:Hid (∀ l os,(grow (putRow (Value.int .i64) (Sort.ahead wr l) gg 0 ys.toArray) os).ownsRow w.heap.size 3 1 (.slice (some ⟨gg,0,none⟩) k u) k (aE ys)):=fun l os=>yY hO B.out
  have Z:Hid (∀ l os,(grow (putRow (Value.int .i64) (Sort.ahead wr l) gg 0 ys.toArray) os).cell? ⟨w.heap.size,0,none⟩=some (.slice (some ⟨gg,0,none⟩) k u)∧w.heap.size<(grow (putRow (Value.int .i64) (Sort.ahead wr l) gg 0 ys.toArray) os).heap.size):=fun l os=>by
   have h:=(World.cell?_of_block (a:=⟨w.heap.size,0,none⟩) (qa (w:=wr) (n:=l) (d:=ys.toArray) (os:=os) K6 K9)).trans f.cells.2.1;rw [j.out] at h;exact ⟨h,(zY ((qa (w:=wr) (n:=l) (d:=ys.toArray) (os:=os) K6 K9).trans f.hF)).1⟩
  have HBs:Hid (∀ l os,Bl w (grow (putRow (Value.int .i64) (Sort.ahead wr l) gg 0 ys.toArray) os)):=fun l os=>ip m hgb
  clear f o r m hO hH Lc f1;go_wp2_with fail;refine Calls.mono p ?_;rintro e w4 ⟨rfl,l,os,t⟩;have HO4:Hid (w4.ownsRow w.heap.size 3 1 (.slice (some ⟨gg,0,none⟩) k u) k (aE ys)):=by rw [t];exact HOs.out l os
  have HB4:Hid (Bl w w4):=by rw [t];exact HBs.out l os
  have c4:w4.cell? ⟨w.heap.size,0,none⟩=some (.slice (some ⟨gg,0,none⟩) k u):=by rw [t];exact (Z.out l os).1
  have hs4:w.heap.size<w4.heap.size:=by rw [t];exact (Z.out l os).2
  clear t p c0 c1;go_wp2_with fail;go_returns;exact ⟨⟨_,ys,rfl,by rw [B.out];exact HO4.out,I.out,fun z=>(J.out z).trans (G.out z)⟩,HB4.out⟩
end Go.Proofs.YtohgnbgamfepoaaGreatDoor
