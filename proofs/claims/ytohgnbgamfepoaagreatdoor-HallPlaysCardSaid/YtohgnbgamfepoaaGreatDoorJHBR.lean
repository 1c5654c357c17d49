/- The cells that are dir -/
import Derived.Test.YtohgnbgamfepoaaGreatDoorJHBN
import Derived.Test.YtohgnbgamfepoaaGreatDoorJHBQ
namespace Go.Proofs.YtohgnbgamfepoaaGreatDoor
open ChangeShapes WideShapes ChangeAt RowKit
set_option maxRecDepth 99999
set_option maxHeartbeats 0
theorem Ev:(132:Nat)≠52:=by decide
theorem BH:(9:Nat)≠52:=by decide
theorem qM:(3:Nat)≠52:=by decide
theorem BI:(155:Nat)≠52:=by decide
theorem Eu:(143:Nat)≠52:=by decide
theorem Ew:(145:Nat)≠52:=by decide
theorem eC.keepC {w w':World} {x:WL} (h:eC w x) (c:kt 52 w w'):eC w' x :=
 ⟨h.1.keep fun b cs fr a=>c b cs _ fr a Ev,h.2.1.keep fun b cs fr a=>c b cs _ fr a BH,h.2.2.1.keep fun b cs fr a=>c b cs _ fr a qM,h.2.2.2.keep fun b cs fr a=>c b cs _ fr a qM⟩
theorem iu.keepC {w w':World} {A:Option Addr} {cap:Nat} {xs:List WL} (h:iu w A cap xs) (c:kt 52 w w'):iu w' A cap xs:=by
 obtain ⟨d,a,e⟩:=h;refine ⟨d,?_,fun x f=>(e x f).keepC c⟩
 rcases a with a | ⟨b,cs,fr,a,h4,h5⟩
 ·exact Or.inl a
 exact Or.inr ⟨b,cs,fr,a,(c b cs _ fr h4 BI).trans h4,h5⟩
theorem cJ.keepC {w w':World} {q g n:Nat} {D:Nat→Dm} {X:Nat→AL} (h:cJ w q g n D X) (e:kt 52 w w'):cJ w' q g n D X:=by
 obtain ⟨f,d,j,k,c⟩:=h;exact ⟨(e _ _ _ _ f Ew).trans f,d,(e _ _ _ _ j Eu).trans j,k,fun i a b=>⟨(c i a b).1,(c i a b).2.1,(c i a b).2.2.1.keepC e,(c i a b).2.2.2⟩⟩
theorem CI {w:World} {g x:Nat} {cs:Array Value} {fr:Nat×Nat} {a b:Value} (h:w.heap[g]?=some (.cells cs 52 fr)):kt 52 w ((w.setCell ⟨g,x,none⟩ a).setCell ⟨g,x+1,none⟩ b):=eH (eu h) (eu (cI h))
theorem B7 (A:Option Addr) (cap:Nat) (L:List Int) (x:Int) (w:World) (k:L.length≤3000) (d:aR w A cap L) (g:L.Pairwise (· < ·)):Calls Tryz.prog 57 #[.slice A L.length cap,.int .i64 x] w fun e w'=>(∃ i:Nat,e=.returned (.tuple #[.int .i64 i,.bool (nH L x)]))∧Bl w w':=by
 obtain ⟨-,-,a | ⟨b,cs,fr,rfl,-,c⟩⟩:=d
 ·subst a
  refine Calls.mono (Any.slices_BinarySearch_int_empty Tryz.lays25 A cap x w) ?_;rintro e w' ⟨rfl,rfl⟩;exact ⟨⟨0,by simp [nH]⟩,zS⟩
 refine Calls.mono (Any.slices_BinarySearch_int Tryz.lays25 b 0 L.length cap L x w (zT) (by omega) (fun j f=>by rw [Nat.zero_add];exact c j f) (by rw [List.take_length];exact g.imp fun h=>by omega)) ?_
 rintro e w' ⟨rfl,q,rfl⟩;rw [List.take_length];have:L.contains x=nH L x:=by unfold nH;rw [Bool.eq_iff_iff];simp
 rw [this];exact ⟨⟨_,rfl⟩,ac (zS) _⟩
theorem Fj {W w':World} {q:Nat} {v:Value} (h:q<W.heap.size∧W.cell? ⟨q,0,none⟩=some v) (a:Bl W w'):Bl W w'∧w'.cell? ⟨q,0,none⟩=some v:=⟨a,aC a h.1 h.2⟩
theorem xp (A0:Option Addr) (cap n:Nat) (D:Nat→Dm) (A:Nat→Option Addr) (C:Nat→Nat) (Ax:Option Addr) (cx:Nat) (ys:List EdL) (gC cC:Nat) (l:List En) (w0 w:World) (S:(aO D n).2.2=0) (hl:Ens D n l) (h0:doE D n l (lD ys)=0) (hM:aW w0 A0 cap n D A C) (hX:ks w0 Ax cx ys) (hB:Bl w0 w) (hg:w0.heap.size≤gC) (hC:bU w gC (wrTo D n (caL D n l) (lD ys) (lD ys).length)) (hcc:prodN D n≤cC) (hc9:cC≤9223372036854775807) :
  Calls Tryz.prog 28 #[.agg #[.slice A0 n cap],.slice (some ⟨gC,0,none⟩) (prodN D n) cC,.slice Ax ys.length cx] w fun e w'=>e=.returned (.tuple #[.int .i64 (doN D n l (lD ys):Nat),.nilIface])∧bU w' gC (caL D n (doL D n l (lD ys)))∧Bl w0 w':=by
 have V:=ao w A0 n cap 24;have hS:=av w A0 n cap 24;have hA:=aH w A0 n cap 24;obtain ⟨W,hW⟩:=az (ax w A0 n cap 24);rw [hW] at V hS hA;unfold ax at hW;obtain ⟨hE,hR⟩:=ex S;have hl2:=wS hl (lD ys);obtain ⟨Q,-,-⟩:=jq hl h0;rw [lD_len] at Q;obtain ⟨dz,dl,dn⟩:=oJ S hl h0;have hgw:gC<w.heap.size:=hC.lt;have v:=aa (ae hB V);have K6:Hid (w.heap.size<W.heap.size∧W.cell? ⟨w.heap.size,0,none⟩=some (.slice A0 n cap)):=⟨by omega,hA⟩
 have K9:Hid (∀ w',Bl W w'→Calls Tryz.prog 55 #[.slice Ax ys.length cx] w' fun e w''=>(∃ A' c,e=.returned (.slice A' ys.length c)∧rZ w'' A' c (plD ys))∧Bl w' w''):=fun w' o=>sV Ax cx ys w' Q (hX.later (ae v.out o))
 have T:Hid (∀ w' A' c,Bl W w'→rZ w' A' c (plD ys)→Calls Tryz.prog 54 #[.agg #[.slice A0 n cap],.slice A' ys.length c] w' fun e w''=>(∃ A2 c2,e=.returned (.tuple #[.slice A2 (drtL D n (numsY D n (lD ys))).length c2,.nilIface])∧aR w'' A2 c2 (drtL D n (numsY D n (lD ys))))∧Bl w' w''):=fun w' A' c o hP'=>by
  have h:=Fx A0 cap n D A C A' c (plD ys) w' (hM.later (ae v.out o)) hP' (by rw [plD_len];omega)
  rw [Ju,dz,dl,errV_zero,plD_len] at h;exact h
 have U:Hid (∀ w',Bl W w'→Calls Tryz.prog 56 #[.agg #[.slice A0 n cap]] w' fun e w''=>(∃ A' c,e=.returned (.tuple #[.slice A' (prodN D n) c,.nilIface])∧aR w'' A' c (coL D n))∧Bl w' w''):=fun w' o=>by
  have h:=EJ A0 cap n D A C w' (hM.later (ae v.out o));rw [S,errV_zero,oE S] at h;exact h
 have HNw:Hid (∀ w',Bl W w'→Calls Tryz.prog 36 #[.agg #[.slice A0 n cap]] w' fun e w''=>(∃ q g X,e=.returned (.tuple #[.pointer (some ⟨q,0,none⟩),.nilIface])∧cJ w'' q g n D X)∧Bl w' w''):=fun w' o=>by
  refine (nL A0 cap n D A C w' hE hR (hM.later (ae v.out o))).mono ?_;rintro e w'' ⟨⟨q,g,X,rfl,-,-,Z⟩,hb⟩;exact ⟨⟨q,g,X,rfl,Z⟩,hb⟩
 have hd3:(drtL D n (numsY D n (lD ys))).length≤3000:=pV hE _;have HFi:Hid (∀ w' A' c (m:Nat),aR w' A' c (drtL D n (numsY D n (lD ys)))→Calls Tryz.prog 57 #[.slice A' (drtL D n (numsY D n (lD ys))).length c,.int .i64 m] w' fun e w''=>(∃ i:Nat,e=.returned (.tuple #[.int .i64 i,.bool (nH (drtL D n (numsY D n (lD ys))) m)]))∧Bl w' w''):=fun w' A' c m h=>B7 A' c _ m w' hd3 h (fl _ _)
 obtain ⟨-,-,hp3,-⟩:=au hE;have f:Hid (∀ k L,k<prodN D n→Bx D n (doL D n l (lD ys)) (drtL D n (numsY D n (lD ys))) (coL D n) k L→∃ m:Nat,(coL D n).getD k 0=(m:Int)∧m<prodN D n∧(∀ z∈ndsX D n m,b6 (L.getD z.toNat noC))∧Bx D n (doL D n l (lD ys)) (drtL D n (numsY D n (lD ys))) (coL D n) (k+1) (L.set m (qn D n L m))∧(nH (drtL D n (numsY D n (lD ys))) (m:Int)=false→Bx D n (doL D n l (lD ys)) (drtL D n (numsY D n (lD ys))) (coL D n) (k+1) L)∧(coL D n).take (k+1)=(coL D n).take k ++ [(m:Int)]):=fun k L hk h=>Eg S hl2 hk h
 have B:Hid (∀ k L,Bx D n (doL D n l (lD ys)) (drtL D n (numsY D n (lD ys))) (coL D n) k L→L.length=prodN D n):=fun k L h=>h.1
 have HTl:Hid (∀ qp g X L m w',cJ w' qp g n D X→bU w' gC L→L.length=prodN D n→m<prodN D n→(∀ z∈ndsX D n m,b6 (L.getD z.toNat noC))→Rt 39 #[.pointer (some ⟨qp,0,none⟩),.slice (some ⟨gC,0,none⟩) (prodN D n) cC,.int .i64 m] w' (.tuple #[.agg #[.int .i64 (qn D n L m).1,.int .i64 (qn D n L m).2],.nilIface])):=fun qp g X L m w' Z hC p hm P=>rE qp g n D X m (some ⟨gC,0,none⟩) cC L w' hR hE hm Z p ⟨by rw [p];exact hcc,hc9,Or.inr ⟨gC,0,rfl,hC.celAt⟩⟩ P
 have b:Hid (∀ L,Bx D n (doL D n l (lD ys)) (drtL D n (numsY D n (lD ys))) (coL D n) (prodN D n) L→L=caL D n (doL D n l (lD ys))):=fun L h=>G4 S hl2 h
 have x:Hid (doN D n l (lD ys)=cntD (drtL D n (numsY D n (lD ys))) (coL D n) (prodN D n)):=dn.trans (Hd S).symm;have d:Hid (Bx D n (doL D n l (lD ys)) (drtL D n (numsY D n (lD ys))) (coL D n) 0 (wrTo D n (caL D n l) (lD ys) (lD ys).length)):=BC S hl h0 _;have E:Hid ((coL D n).length=prodN D n):=oE S;have K7:=aa (hC.later V);generalize wrTo D n (caL D n l) (lD ys) (lD ys).length=L0 at d K7;generalize caL D n (doL D n l (lD ys))=CA at b ⊢;generalize doN D n l (lD ys)=NN at x ⊢;generalize doL D n l (lD ys)=l2 at f B b d;generalize drtL D n (numsY D n (lD ys))=DR at T HFi f B b x d;generalize coL D n=O at U f B b x d E;obtain ⟨N,hN⟩:=az (prodN D n);rw [hN] at U f B HTl b x E hp3 hcc ⊢;have hNI:(N:Int)≤3000:=by omega
 have hcI:(N:Int)≤(cC:Int):=by omega
 generalize ys.length=yl at K9 T ⊢;clear hM hX hB hC V hS hA hE hR hl hl2 h0 S Q dz dl dn hd3 hN
 go_enter Tryz.func28,Tryz.ntmps28
 go_wp2_with fail
 go_cut [8,9] from 17 (fun s8 s9 wx=>s9=.nilIface∧∃ A' c,s8=.slice A' DR.length c∧aR wx A' c DR∧Bl W wx)
 case first =>
  go_region_held3 (fun w'=>Bl W w'∧w'.cell? ⟨w.heap.size,0,none⟩=some (.slice A0 n cap))
   ((refine Fj K6.out ?_;go_grown;done))
   (first
    | (go_at_call 55;refine (K9.out _ (by go_grown)).mono ?_;rintro e wa ⟨⟨Aa,ca,rfl,hpa⟩,hba⟩;have hNa:=ae (W0:=W) (by go_grown) hba;have hsa:=hNa.size;clear hba)
    | (go_at_call 54;refine (T.out _ _ _ (by go_grown) (hpa.later (by go_grown))).mono ?_;rintro e wb ⟨⟨Ab,cb,rfl,hIb⟩,hbb⟩;have hNb:=ae (W0:=W) (by go_grown) hbb;have hsb:=hNb.size;clear hbb))
  all_goals go_wp2_with fail
  all_goals go_meet
  all_goals exact ⟨rfl,_,_,rfl,hIb.later (by go_grown),by go_grown⟩
 case rest =>
 clear hW;obtain ⟨rfl,Ad,cd,rfl,hId,H⟩:=hcut;obtain ⟨w1,rfl⟩:∃ wd:World,wd=wc:=⟨_,rfl⟩;have HId:=aa hId;have HB1:=aa H;obtain ⟨x1,x2⟩:=Fj K6.out H;have hs1:w.heap.size<w1.heap.size:=zW K6.out.1 H.size;have ho:=U.out w1 H;clear hId H x1;go_wp2_with fail;refine ho.mono ?_;rintro e w2 ⟨⟨Ao,co,rfl,hIo⟩,K⟩;have HIo:=aa hIo;have K2:=aa (HId.out.later K);have K5:=aa (ae HB1.out K);have c2:=aC K hs1 x2;have hs2:w.heap.size<w2.heap.size:=zW hs1 K.size;have hnw:=HNw.out w2 K5.out;clear hIo K ho x2;go_wp2_with fail;refine hnw.mono ?_;rintro e w3 ⟨⟨q,g,X,rfl,hP3⟩,M⟩;have K3:Hid (bU w3 gC L0∧cJ w3 q g n D X∧aR w3 Ad cd DR∧aR w3 Ao co O∧Bl w0 w3):=⟨K7.out.later (ae K5.out M),hP3,K2.out.later M,HIo.out.later M,ae v.out (ae K5.out M)⟩;clear hP3 M hnw c2 HIo K2 HId HNw U T K9 K7;go_wp2_with fail
 go_loopg [9,12,45] N (fun gg s9 s12 s45 wr => ∃ (k:Nat),k≤N∧gg=N-k∧s45=.int .i64 k∧s12=.int .i64 (cntD DR O k:Nat)∧s9=.nilIface∧Hid (∃ L,bU wr gC L∧Bx D n l2 DR O k L)∧Hid (cJ wr q g n D X∧aR wr Ad cd DR∧aR wr Ao co O∧Bl w0 wr))
 case atStart=>exact ⟨0,zU,rfl,rfl,rfl,rfl,aa ⟨L0,K3.out.1,d.out⟩,aa K3.out.2⟩
 case round =>
  obtain ⟨k,hk,rfl,rfl,rfl,rfl,HL,HI⟩:=hrel
  by_cases hlt:k<N
  ·have hki:(k:Int)<(N:Int):=by omega
   obtain ⟨L,j,s⟩:=HL.out;obtain ⟨m,hm,hmN,P,F,G,u9⟩:=f.out k L hlt s;have p:=B.out k L s;obtain ⟨Z,I,J,Y⟩:=HI.out;obtain ⟨hcS,-,hS0 | ⟨bs,cs,fr,rfl,hbS,hcl⟩⟩:=id J
   ·have:=E.out;rw [hS0] at this;simp at this;omega
   have cx:=hcl k (by rw [E.out];exact hlt)
   have hbs:bs<wr.heap.size:=(zY hbS).1;rw [E.out] at hcS;rw [hm] at cx;have hcSI:(N:Int)≤(co:Int):=by omega
   have hmI:(m:Int)<(N:Int):=by omega
   have u:=HFi.out wr Ad cd m I;have hck:=Hc DR O k;have K4:((cntD DR O k:Nat):Int)≤(k:Int):=by omega
   cases hin:nH DR (m:Int)
   ·have K8:Hid (∀ w5,Bl wr w5→(∃ L,bU w5 gC L∧Bx D n l2 DR O (k+1) L)∧cJ w5 q g n D X∧aR w5 Ad cd DR∧aR w5 (some ⟨bs,0,none⟩) co O∧Bl w0 w5):=fun w5 a=>⟨⟨L,j.later a,G hin⟩,Z.later a,I.later a,J.later a,ae Y a⟩
    have y:=aa (EG u9 hin);rw [hin] at u;clear hcl hbS hm P s F G u9 j Z I J Y hin p;generalize cntD DR O k=ck at y hck K4;go_wp2_with fail;refine u.mono ?_;rintro e w5 ⟨⟨i,rfl⟩,a⟩;have HN2:=aa (K8.out w5 a);clear a u;go_wp2_with fail
    go_roundg (N-(k+1))
    case measure=>omega
    case rel=>exact ⟨k+1,by omega,rfl,by go_num,by rw [y.out],rfl,aa HN2.out.1,aa HN2.out.2⟩
   have y:=aa (He u9 hin);have K0:=aa F;have HLl:=aa p;have K8:Hid (∀ w5,Bl wr w5→bU w5 gC L∧cJ w5 q g n D X∧aR w5 Ad cd DR∧aR w5 (some ⟨bs,0,none⟩) co O∧Bl w0 w5):=fun w5 a=>⟨j.later a,Z.later a,I.later a,J.later a,ae Y a⟩
   have La:Hid (∀ w5,Bl wr w5→Rt 39 #[.pointer (some ⟨q,0,none⟩),.slice (some ⟨gC,0,none⟩) N cC,.int .i64 m] w5 (.tuple #[.agg #[.int .i64 (qn D n L m).1,.int .i64 (qn D n L m).2],.nilIface])):=fun w5 a=>HTl.out q g X L m w5 (Z.later a) (j.later a) p hmN P
   rw [hin] at u;clear hcl hbS hm P s F G u9 j Z I J Y hin p;obtain ⟨⟨ra,rb⟩,hRe⟩:∃ R,qn D n L m=R:=⟨_,rfl⟩;rw [hRe] at La K0;simp only at La;clear hRe;generalize cntD DR O k=ck at y hck K4;go_wp2_with fail;refine u.mono ?_;rintro e w5 ⟨⟨i,rfl⟩,a⟩;have HB5:=aa a;have htc:=La.out w5 a;clear a u;go_wp2_with fail;refine htc.mono ?_;rintro e w6 ⟨rfl,hb6⟩;obtain ⟨t,hP6,hI6,hO6,hB6⟩:=K8.out w6 (ae HB5.out hb6);obtain ⟨r0,r1⟩:=t.at (k:=m) (by rw [HLl.out];exact hmN)
   have f0:=t.frozen (m*2);have f1:=t.frozen (m*2+1);have hgl:=t.lt;have HC7:Hid (bU ((w6.setCell ⟨gC,m*2,none⟩ (.int .i64 ra)).setCell ⟨gC,m*2+1,none⟩ (.int .i64 rb)) gC (L.set m (ra,rb))):=t.set (by rw [HLl.out];exact hmN) ra rb
   obtain ⟨cur,r,-⟩:=t;have HR7:Hid (cJ ((w6.setCell ⟨gC,m*2,none⟩ (.int .i64 ra)).setCell ⟨gC,m*2+1,none⟩ (.int .i64 rb)) q g n D X∧aR ((w6.setCell ⟨gC,m*2,none⟩ (.int .i64 ra)).setCell ⟨gC,m*2+1,none⟩ (.int .i64 rb)) Ad cd DR∧aR ((w6.setCell ⟨gC,m*2,none⟩ (.int .i64 ra)).setCell ⟨gC,m*2+1,none⟩ (.int .i64 rb)) (some ⟨bs,0,none⟩) co O∧Bl w0 ((w6.setCell ⟨gC,m*2,none⟩ (.int .i64 ra)).setCell ⟨gC,m*2+1,none⟩ (.int .i64 rb))):=⟨hP6.keepC (CI r),mr hI6 r,mr hO6 r,(hB6.setCell hg _).setCell hg _⟩;clear hb6 htc r hP6 hI6 hO6 hB6;go_wp2_with fail
   go_roundg (N-(k+1))
   case measure=>omega
   case rel=>exact ⟨k+1,by omega,rfl,by go_num,by rw [y.out];go_num,rfl,aa ⟨_,HC7.out,K0.out⟩,HR7⟩
  have hke:k=N:=by omega
  subst hke;have HF:Hid (bU wr gC CA∧Bl w0 wr):=by
   obtain ⟨L,j,s⟩:=HL.out;have hLe:=b.out L s;rw [hLe] at j;exact ⟨j,HI.out.2.2.2⟩
  go_wp2_with fail;go_returns;refine ⟨?_,HF.out⟩;rw [x.out]
  rfl
theorem ir.same {w w':World} {b o:Nat} {L:List (Int×Int)} (h:ir w b o L) (e:w.heap.size≤w'.heap.size) (c:w'.heap[b]?=w.heap[b]?):ir w' b o L :=
 ⟨zW h.1 e,fun k d=>⟨(World.cell?_of_block (a:=⟨b,o+k*2,none⟩) c).trans (h.2 k d).1,(World.cell?_of_block (a:=⟨b,o+k*2+1,none⟩) c).trans (h.2 k d).2⟩⟩
theorem aZ.frame {w w':World} {N:Nat} {A:Option Addr} {c:Nat} {L:List Int} (h:aZ w A c L) (l:eX N A) (m:w.heap.size≤w'.heap.size) (i:∀ b,N≤b→b<w.heap.size→w'.heap[b]?=w.heap[b]?):aZ w' A c L:=by
 obtain ⟨e,d | ⟨b,o,d,f,g⟩⟩:=h
 ·exact ⟨e,Or.inl d⟩
 exact ⟨e,Or.inr ⟨b,o,d,zW f m,fun j k=>(World.cell?_of_block (a:=⟨b,o+j,none⟩) (i b (l b o d) f)).trans (g j k)⟩⟩
theorem b7.frame {w w':World} {N:Nat} {A:Option Addr} {c:Nat} {xs:List EnL} (h:b7 w A c xs) (q:eX N A) (r:dS N xs) (l:w.heap.size≤w'.heap.size) (k:∀ b,N≤b→b<w.heap.size→w'.heap[b]?=w.heap[b]?):b7 w' A c xs:=by
 obtain ⟨g,f,e | ⟨b,o,e,i,m,n⟩⟩:=h
 ·exact ⟨g,f,Or.inl e⟩
 exact ⟨g,f,Or.inr ⟨b,o,e,zW i l,fun j u p=>(World.cell?_of_block (a:=⟨b,o+j,none⟩) (k b (q b o e) i)).trans (m j u p),fun x d=>(n x d).frame (r x d) l k⟩⟩
theorem kP.frame {w w':World} {N g n:Nat} {D:Nat→Dm} {G C:Nat→Nat} (h:kP w N g n D G C) (c:∀ b,N≤b→b<w.heap.size→w'.heap[b]?=w.heap[b]?):kP w' N g n D G C :=
 ⟨h.1,h.2.1.same (c _ h.1 h.2.1.lt),fun i a=>⟨(h.2.2 i a).1,(h.2.2 i a).2.1,(h.2.2 i a).2.2.same (c _ (h.2.2 i a).1 (h.2.2 i a).2.2.lt)⟩⟩
def HV (w:World) (h:Nat) (S:Nat→Prop) (D:Nat→Dm) (n:Nat) (l:List En):Prop :=
 (∀ b,S b→b<w.heap.size)∧((aO D n).2.2=0∧Ens D n l)∧S h∧∃ (A0:Option Addr) (co:Nat) (A:Nat→Option Addr) (C:Nat→Nat) (Ae:Option Addr) (ce:Nat) (zs:List EnL) (gc oc cc:Nat),
  w.heap[h]?=some (.cells #[.slice A0 n co,.slice Ae zs.length ce,.slice (some ⟨gc,oc,none⟩) (prodN D n) cc] 62 (0,0))∧lE zs=l∧prodN D n≤cc∧cc≤9223372036854775807 ∧
  ∀ w',w.heap.size≤w'.heap.size→(∀ b,S b→b≠h→w'.heap[b]?=w.heap[b]?)→aW w' A0 co n D A C∧b7 w' Ae ce zs∧ir w' gc oc (caL D n l)
theorem HV.keep {w w':World} {h:Nat} {S:Nat→Prop} {D:Nat→Dm} {n:Nat} {l:List En} (H:HV w h S D n l) (i:w.heap.size≤w'.heap.size) (g:∀ b,S b→w'.heap[b]?=w.heap[b]?):HV w' h S D n l:=by
 obtain ⟨o,p,f,A0,m,A,C,Ae,k,zs,gc,oc,j,q,r,s,t,u⟩:=H;exact ⟨fun b a=>zW (o b a) i,p,f,A0,m,A,C,Ae,k,zs,gc,oc,j,(g h f).trans q,r,s,t,fun w2 e c=>u w2 (zV i e) fun b a d=>(c b a d).trans (g b a)⟩
theorem um (A0:Option Addr) (cap n:Nat) (D:Nat→Dm) (A:Nat→Option Addr) (C:Nat→Nat) (w:World) (f:(aO D n).2.2≠0) (i:aW w A0 cap n D A C) :
  Rt 5 #[.agg #[.slice A0 n cap]] w (.tuple #[.pointer none,errV (aO D n).2.2]):=by
 have b:=ao w A0 n cap 24;have k:=aH w A0 n cap 24;have a:=Et A0 cap n D A C none 0 [] (ax w A0 n cap 24) (i.later b) (b7.nil _ _ _ (by omega))
 have c:fq D n (lE [])=(aO D n).2.2:=by unfold fq;rw [if_pos f]
 rw [c,sm (by rw [c];exact f),ak f] at a
 rw [ak f];simp only [List.length_nil] at a;obtain ⟨W,j⟩:=az (ax w A0 n cap 24);rw [j] at b k a;unfold ax at j;have g:=aa b;generalize (aO D n).2.2=z at a ⊢;clear i b f c
 go_enter Tryz.func5,Tryz.ntmps5
 go_wp2_with fail;refine a.mono ?_;rintro e w1 ⟨⟨A1,c1,rfl,-⟩,d⟩;have h:=aa (ae g.out d);clear d a;go_wp2_with fail;go_returns;exact ⟨rfl,h.out⟩
theorem uo (A0:Option Addr) (cap n:Nat) (D:Nat→Dm) (A:Nat→Option Addr) (C:Nat→Nat) (w:World) (E:(aO D n).2.2=0) (L:aW w A0 cap n D A C) :
  Calls Tryz.prog 5 #[.agg #[.slice A0 n cap]] w fun e w'=>(∃ h S,e=.returned (.tuple #[.pointer (some ⟨h,0,none⟩),.nilIface])∧HV w' h S D n []∧∀ b,S b→w.heap.size≤b)∧Bl w w':=by
 obtain ⟨y,hR⟩:=ex E;have p:Ens D n []:=⟨y,fun e he=>(by cases he),List.Pairwise.nil⟩
 have l:=gz E p;have m:=ao w A0 n cap 24;have B:=av w A0 n cap 24;have K:=aH w A0 n cap 24;have f:=tR A0 cap n D A C none 0 [] (ax w A0 n cap 24) (L.later m) (b7.nil _ _ _ (by omega))
 rw [show lE ([]:List EnL)=[] from rfl,l,errV_zero,gO l] at f
 simp only [List.length_nil] at f;obtain ⟨hn1,hn4,T,U⟩:=au y;have x:1≤prodN D n:=mE fun i hi=>(U i hi).1
 have I:Hid (∀ w',Bl w w'→Calls Tryz.prog 20 #[.agg #[.slice A0 n cap]] w' fun e w''=>(∃ g c G C',e=.returned (.agg #[.slice (some ⟨g,0,none⟩) n c])∧n≤c∧kP w'' w'.heap.size g n D G C')∧Bl w' w''):=fun w' Z=>xW A0 cap n D A C w' y (L.later Z)
 have k:Hid (∀ (w1 w2:World) (g c:Nat) (G C':Nat→Nat) (A1:Option Addr) (c1:Nat),Bl w w1→dx w1 A1 c1 (caL D n [])→eX w.heap.size A1→Bl w1 w2→n≤c→kP w2 w1.heap.size g n D G C'→∃ S,HV (w2.alloc (.cells #[.slice (some ⟨g,0,none⟩) n c,.slice none 0 0,.slice A1 (prodN D n) c1] 62)) w2.heap.size S D n []∧∀ b,S b→w.heap.size≤b):=fun w1 w2 g c G C' A1 c1 a hC hN d R z=>by
  obtain ⟨V,q2,q3 | ⟨gc,oc,rfl,X⟩⟩:=hC
  ·have:=gO l;rw [q3] at this;simp at this;omega
  rw [gO l] at V;have j:(w2.alloc (.cells #[.slice (some ⟨g,0,none⟩) n c,.slice none 0 0,.slice (some ⟨gc,oc,none⟩) (prodN D n) c1] 62)).heap.size=w2.heap.size+1:=by simp
  refine ⟨fun b=>w.heap.size≤b∧b<w2.heap.size+1,⟨fun b u=>by rw [j];exact u.2,⟨E,p⟩,⟨(ae a d).size,by omega⟩,some ⟨g,0,none⟩,c,(fun i=>some ⟨G i,0,none⟩),C',none,0,[],gc,oc,c1,heap_alloc_new ..,rfl,V,q2,fun w' hs u=>?_⟩,fun b u=>u.1⟩
  have t:∀ b,w.heap.size≤b→b<w2.heap.size→w'.heap[b]?=w2.heap[b]?:=fun b a d=>(u b ⟨a,by omega⟩ (by omega)).trans (Below.heap_alloc _ _ _ d)
  rw [j] at hs;have M:=z.frame (w':=w') fun b P Q=>t b (zV a.size P) Q
  refine ⟨⟨R,Or.inr ⟨g,0,rfl,M.dims⟩⟩,b7.nil _ _ _ (by omega),?_⟩
  exact (X.later d).same (by omega) (t gc (hN gc oc rfl) (X.later d).1)
 obtain ⟨W,O⟩:=az (ax w A0 n cap 24);rw [O] at m K B f;unfold ax at O;have F:=aa m;have j:w.heap.size<W.heap.size:=by omega
 generalize caL D n []=CL at f k;generalize prodN D n=N at f k;clear L m E y hR p l U T x B
 go_enter Tryz.func5,Tryz.ntmps5
 go_wp2_with fail;refine f.mono ?_;rintro e w1 ⟨⟨A1,c1,rfl,r,s⟩,a⟩;have o:=aa (ae F.out a);have H:=aa r;have J:=aa (s.le (Nat.le_of_lt j));have x1:=aC a j K;have hs1:w.heap.size<w1.heap.size:=zW j a.size;have v:=I.out w1 o.out;clear a f r s K O;go_wp2_with fail;refine v.mono ?_;rintro e w2 ⟨⟨g,c,G,C',rfl,R,z⟩,d⟩;have q:=aa d;have Y:=aa z;clear d z v;go_wp2_with fail;go_returns;obtain ⟨S,hH,B⟩:=k.out w1 w2 g c G C' A1 c1 o.out H.out J.out q.out R Y.out;exact ⟨⟨_,S,rfl,hH,B⟩,ae o.out (ae q.out (by go_grown))⟩
section
variable {w:World} {h:Nat} {S:Nat→Prop} {D:Nat→Dm} {n:Nat} {l:List En}
theorem HV.parts (H:HV w h S D n l):∃ (A0:Option Addr) (f:Nat) (A:Nat→Option Addr) (C:Nat→Nat) (Ae:Option Addr) (e:Nat) (zs:List EnL) (gc oc d:Nat),h<w.heap.size∧(w.cell? ⟨h,0,none⟩=some (.slice A0 n f)∧w.cell? ⟨h,1,none⟩=some (.slice Ae zs.length e)∧w.cell? ⟨h,2,none⟩=some (.slice (some ⟨gc,oc,none⟩) (prodN D n) d))∧lE zs=l∧prodN D n≤d∧d≤9223372036854775807∧aW w A0 f n D A C∧b7 w Ae e zs∧ir w gc oc (caL D n l):=by
 obtain ⟨i,q,j,A0,f,A,C,Ae,e,zs,gc,oc,d,g,k,m,o,p⟩:=H;obtain ⟨a,b,c⟩:=p w (zT) fun _ _ _=>rfl
 exact ⟨A0,f,A,C,Ae,e,zs,gc,oc,d,i h j,⟨(Lib.cell_of_heap g 0).trans rfl,(Lib.cell_of_heap g 1).trans rfl,(Lib.cell_of_heap g 2).trans rfl⟩,k,m,o,a,b,c⟩
theorem HV.sizes (H:HV w h S D n l):(am D n).2.2=0∧(caL D n l).length=prodN D n∧1≤prodN D n∧prodN D n≤3000:=by
 obtain ⟨b,g⟩:=ex H.2.1.1;obtain ⟨e,f,a,c⟩:=au b;exact ⟨b,gO (gz H.2.1.1 H.2.1.2),mE fun i d=>(c i d).1,a⟩
end
theorem oZ (h:Nat) (S:Nat→Prop) (D:Nat→Dm) (n:Nat) (l:List En) (w:World) (H:HV w h S D n l) :
  Calls Tryz.prog 13 #[.pointer (some ⟨h,0,none⟩)] w fun e w'=>(∃ A' c,e=.returned (.slice A' (caL D n l).length c)∧dx w' A' c (caL D n l))∧Bl w w':=by
 obtain ⟨A0,t,A,C,Ae,s,zs,gc,oc,r,u,⟨-,-,c2⟩,-,-,-,-,-,q⟩:=H.parts;obtain ⟨-,k,m,o⟩:=H.sizes;have a:=ot gc oc r (caL D n l) w (by omega) (by omega) q
 rw [k] at a ⊢;have b:=aa k;generalize caL D n l=CL at a b;generalize prodN D n=N at c2 a b;clear H q k m o
 go_enter Tryz.func13,Tryz.ntmps13
 go_wp2_with fail;refine a.mono ?_;rintro e w1 ⟨⟨g,c,rfl,-,i,j,d⟩,f⟩;have p:Hid (dx w1 (some ⟨g,0,none⟩) c CL∧Bl w w1):=⟨⟨by rw [b.out];exact i,j,Or.inr ⟨g,0,rfl,d.celAt⟩⟩,f⟩
 clear f d a;go_wp2_with fail;go_ret;exact ⟨⟨_,c,rfl,p.out.1⟩,p.out.2⟩
theorem lh (h:Nat) (S:Nat→Prop) (D:Nat→Dm) (n:Nat) (l:List En) (w:World) (H:HV w h S D n l) :
  Calls Tryz.prog 15 #[.pointer (some ⟨h,0,none⟩)] w fun e w'=>(∃ A' c' zs,e=.returned (.slice A' zs.length c')∧b7 w' A' c' zs∧lE zs=l)∧Bl w w':=by
 obtain ⟨A0,q,A,C,Ae,o,zs,gc,oc,p,r,⟨-,c1,-⟩,k,-,-,-,g,-⟩:=H.parts;have a:=H.2.1.2;rw [←k] at a;have c:=Cd Ae o zs w (kA a) (oV a) g;have m:=aa k;have f:Hid (∀ ys:List EnL,lE ys=lE zs→ys.length=zs.length):=fun ys h=>by rw [←a7,h,a7]
 generalize zs.length=zl at c1 c f;clear H g k a
 go_enter Tryz.func15,Tryz.ntmps15
 go_wp2_with fail;refine c.mono ?_;rintro e w1 ⟨⟨ys,rfl,b,d⟩,i⟩;have j:Hid (b7 w1 (some ⟨w.heap.size,0,none⟩) zl ys∧lE ys=l∧Bl w w1∧ys.length=zl):=⟨b.ensV,d.trans m.out,i,f.out ys d⟩;clear i b d c;go_wp2_with fail;go_ret;exact ⟨⟨_,zl,ys,by rw [j.out.2.2.2];rfl,j.out.1,j.out.2.1⟩,j.out.2.2.1⟩
theorem Ci (h:Nat) (S:Nat→Prop) (D:Nat→Dm) (n:Nat) (l:List En) (Ap:Option Addr) (R:Nat) (p:List Int) (w:World) (H:HV w h S D n l) (V:aZ w Ap R p) :
  Rt 17 #[.pointer (some ⟨h,0,none⟩),.slice Ap p.length R] w (.tuple #[.agg #[.int .i64 (hcV D n l p).1,.int .i64 (hcV D n l p).2],errV (placeErr D n p)]):=by
 obtain ⟨A0,co,A,C,Ae,ce,zs,gc,oc,cc,hh,⟨c0,-,c2⟩,-,x,-,T,-,O⟩:=H.parts;obtain ⟨hE,X,G,I⟩:=H.sizes;obtain ⟨W,u⟩:=az (w.alloc (.cells #[.int .i64 0,.int .i64 0] 52));have g:Bl w W:=by rw [←u];go_grown
 have hWs:W.heap.size=w.heap.size+1:=by rw [←u];simp
 obtain ⟨P,Q,i,j⟩:=cF (show W.heap[w.heap.size]?=some (.cells #[.int .i64 0,.int .i64 0] 52 (0,0)) from by rw [←u];exact heap_alloc_new ..)
 have a:=gX A0 co n D A C Ap R p W (T.later g) (V.later g);have t:=aC g hh c0;have s:=aa g;have hne:h≠w.heap.size:=by omega
 by_cases f:placeErr D n p=0
 ·have hI:=fY f
  have k:=a8 hI (Nat.le_refl n);obtain ⟨m,Y⟩:∃ m:Nat,numI D p n=(m:Int):=⟨(numI D p n).toNat,by have:=k.1;omega⟩
  have E:m<prodN D n:=by have:=k.2.1;omega
  have F:numV D n p=(m:Int):=by unfold numV;rw [if_pos f,Y]
  have d:hcV D n l p=(caL D n l).getD m noC:=by unfold hcV;rw [if_pos f,Y,Int.toNat_natCast]
  rw [F,f,errV_zero] at a;rw [d,f,errV_zero];obtain ⟨L,M⟩:=O.2 m (by rw [X];exact E)
  have B:=O.1;have y:(prodN D n:Int)≤(cc:Int):=by omega
  have Z:(m:Int)<(prodN D n:Int):=by omega
  have U:(prodN D n:Int)≤3000:=by omega
  generalize (caL D n l).getD m noC=r at L M;obtain ⟨J,K⟩:=r;simp only at L M ⊢;generalize prodN D n=N at c2 E y Z U;generalize p.length=pl at a;clear H T O V hI k Y F d f hE X G I x;have hgne:gc≠w.heap.size:=by omega
  go_enter Tryz.func17,Tryz.ntmps17
  go_wp2_with fail;refine a.mono ?_;rintro e w1 ⟨rfl,b⟩;have c:=aa (ae s.out b);have x2:w1.cell? ⟨h,2,none⟩=some (.slice (some ⟨gc,oc,none⟩) N cc):=aC c.out hh c2;have y0:w1.cell? ⟨gc,oc+m*2,none⟩=some (.int .i64 J):=aC c.out B L;have y1:w1.cell? ⟨gc,oc+m*2+1,none⟩=some (.int .i64 K):=aC c.out B M;have z0:=aC b (by show w.heap.size<_;omega) P
  have z1:=aC b (by show w.heap.size<_;omega) Q
  have zf0:=(b.frozen (p:=⟨w.heap.size,0,none⟩) (by show w.heap.size<_;omega)).trans i
  have zf1:=(b.frozen (p:=⟨w.heap.size,1,none⟩) (by show w.heap.size<_;omega)).trans j
  have u9:w.heap.size<w1.heap.size:=by have:=b.size;omega
  clear b a P Q i j c0 t c2 L M u;go_wp2_with fail;have o:((w1.setCell ⟨w.heap.size,0,none⟩ (.int .i64 J)).setCell ⟨w.heap.size,1,none⟩ (.int .i64 K)).cell? ⟨w.heap.size,0,none⟩=some (.int .i64 J):=by rw [World.cell?_setCell_other _ _ _ _ (by simp)];exact World.cell?_setCell_same _ _ _ z0
  have q:((w1.setCell ⟨w.heap.size,0,none⟩ (.int .i64 J)).setCell ⟨w.heap.size,1,none⟩ (.int .i64 K)).cell? ⟨w.heap.size,1,none⟩=some (.int .i64 K):=World.cell?_setCell_same _ _ _ ((World.cell?_setCell_other _ _ _ _ (by simp)).trans z1)
  refine bodyPost_ret (v:=.tuple #[.agg #[.int .i64 J,.int .i64 K],.nilIface]) (by simp [results,Tryz.results17,go_sem,o,q]) rfl ⟨rfl,(c.out.setCell (zT) _).setCell (zT) _⟩
 have d:hcV D n l p=(0,0):=by unfold hcV;rw [if_neg f]
 rw [ak f] at a;rw [d,ak f];simp only;generalize placeErr D n p=z at a;generalize numV D n p=nv at a;generalize p.length=pl at a;clear H T O V d f hE X G I x
 go_enter Tryz.func17,Tryz.ntmps17
 go_wp2_with fail;refine a.mono ?_;rintro e w1 ⟨rfl,b⟩;have c:=aa (ae s.out b);have z0:=aC b (by show w.heap.size<_;omega) P
 have z1:=aC b (by show w.heap.size<_;omega) Q
 have zf0:=(b.frozen (p:=⟨w.heap.size,0,none⟩) (by show w.heap.size<_;omega)).trans i
 have zf1:=(b.frozen (p:=⟨w.heap.size,1,none⟩) (by show w.heap.size<_;omega)).trans j
 have u9:w.heap.size<w1.heap.size:=by have:=b.size;omega
 clear b a P Q i j c0 t c2 u;go_wp2_with fail;have o:((w1.setCell ⟨w.heap.size,0,none⟩ (.int .i64 0)).setCell ⟨w.heap.size,1,none⟩ (.int .i64 0)).cell? ⟨w.heap.size,0,none⟩=some (.int .i64 0):=by rw [World.cell?_setCell_other _ _ _ _ (by simp)];exact World.cell?_setCell_same _ _ _ z0
 have q:((w1.setCell ⟨w.heap.size,0,none⟩ (.int .i64 0)).setCell ⟨w.heap.size,1,none⟩ (.int .i64 0)).cell? ⟨w.heap.size,1,none⟩=some (.int .i64 0):=World.cell?_setCell_same _ _ _ ((World.cell?_setCell_other _ _ _ _ (by simp)).trans z1)
 refine bodyPost_ret (v:=.tuple #[.agg #[.int .i64 0,.int .i64 0],.iface 63 (.int .i64 z)]) (by simp [results,Tryz.results17,go_sem,o,q]) rfl ⟨rfl,(c.out.setCell (zT) _).setCell (zT) _⟩
theorem Fk {W w':World} {q:Nat} {u v:Value} (h:q<W.heap.size∧W.cell? ⟨q,0,none⟩=some u∧W.cell? ⟨q,1,none⟩=some v) (a:Bl W w'):Bl W w'∧w'.cell? ⟨q,0,none⟩=some u∧w'.cell? ⟨q,1,none⟩=some v:=⟨a,aC a h.1 h.2.1,aC a h.1 h.2.2⟩
theorem IF {w:World} {h T:Nat} {a b c:Value} {fr:Nat×Nat} (k:w.heap[h]?=some (.cells #[a,b,c] T fr)) (u v:Value):((w.setCell ⟨h,1,none⟩ u).setCell ⟨h,2,none⟩ v).heap[h]?=some (.cells #[a,u,v] T fr):=cI (cI k)
theorem un (h:Nat) (S:Nat→Prop) (D:Nat→Dm) (n:Nat) (l:List En) (Ax:Option Addr) (cx:Nat) (ys:List EdL) (w:World) (H:HV w h S D n l) (hX:ks w Ax cx ys) :
  Calls Tryz.prog 10 #[.pointer (some ⟨h,0,none⟩),.slice Ax ys.length cx] w fun e w'=>(∃ S',e=.returned (.tuple #[.int .i64 (doN D n l (lD ys):Nat),errV (doE D n l (lD ys))])∧HV w' h S' D n (doL D n l (lD ys))∧∀ b,S' b→S b∨w.heap.size≤b)∧Kept w.heap.size (fun b=>b=h) w w':=by
 have HH:=aa H;obtain ⟨F,⟨hr,K⟩,U,A0,E,A,C,Ae,ce,zs,gc,oc,cc,j,hlz,hcc,hc9,X⟩:=id H;obtain ⟨hM,hEn,hC⟩:=X w (zT) fun _ _ _=>rfl
 obtain ⟨hE,V,hp1,hp3⟩:=H.sizes;have hh:h<w.heap.size:=F h U;have c0:w.cell? ⟨h,0,none⟩=some (.slice A0 n E):=(Lib.cell_of_heap j 0).trans rfl;have c1:w.cell? ⟨h,1,none⟩=some (.slice Ae zs.length ce):=(Lib.cell_of_heap j 1).trans rfl;have c2:w.cell? ⟨h,2,none⟩=some (.slice (some ⟨gc,oc,none⟩) (prodN D n) cc):=(Lib.cell_of_heap j 2).trans rfl;have Q:Hid (h<w.heap.size∧w.cell? ⟨h,0,none⟩=some (.slice A0 n E)∧w.cell? ⟨h,1,none⟩=some (.slice Ae zs.length ce)):=⟨hh,c0,c1⟩;have f:Hid (∀ w',Bl w w'→Calls Tryz.prog 25 #[.agg #[.slice A0 n E],.slice Ae zs.length ce,.slice Ax ys.length cx] w' fun e w''=>(∃ B c us,e=.returned (.tuple #[.slice B us.length c,.int .i64 (editsV D n l (lD ys)).2.1,errV (doE D n l (lD ys))])∧b7 w'' B c us∧lE us=(editsV D n l (lD ys)).1∧eX w.heap.size B∧dS w.heap.size us)∧Bl w' w''):=fun w' s=>by
  have h':=Fa A0 E n D A C Ae ce zs Ax cx ys w' (hM.later s) (hEn.later s) (hX.later s);rw [hlz] at h';exact h'.mono fun _ _ ⟨⟨B,c,us,a1,a2,a3,a4,a5⟩,a6⟩=>⟨⟨B,c,us,a1,a2,a3,a4.le s.size,a5.le s.size⟩,a6⟩
 by_cases P:doE D n l (lD ys)=0
 ·obtain ⟨O,W,hdo⟩:=jq K P
  rw [lD_len] at O hdo;have hl2:=wS K (lD ys);have HV1:Hid (doL D n l (lD ys)=(editsV D n l (lD ys)).1):=by show _=_;unfold doL;rw [if_pos P]
  rw [P,errV_zero] at f ⊢;have HCl:Hid (∀ w',Bl w w'→Calls Tryz.prog 26 #[.slice (some ⟨gc,oc,none⟩) (prodN D n) cc] w' fun e w''=>(∃ g c',e=.returned (.slice (some ⟨g,0,none⟩) (prodN D n) c')∧w'.heap.size≤g∧prodN D n≤c'∧c'≤9223372036854775807∧bU w'' g (caL D n l))∧Bl w' w''):=fun w' s=>by
   have h':=ot gc oc cc (caL D n l) w' (by omega) (by omega) (hC.later s)
   rw [V] at h';exact h'
  have I:Hid (∀ w0 w' gC a,Bl w w0→Bl w0 w'→w0.heap.size≤gC→bU w' gC (caL D n l)→prodN D n≤a→Calls Tryz.prog 27 #[.agg #[.slice A0 n E],.slice (some ⟨gC,0,none⟩) (prodN D n) a,.slice Ax ys.length cx] w' fun e w''=>e=.returned .nilIface∧bU w'' gC (wrTo D n (caL D n l) (lD ys) (lD ys).length)∧Bl w0 w''):=fun w0 w' gC a J s hg p q=>by
   have h':=xr A0 E n D A C Ax cx ys gC a (caL D n l) w0 w' O hp3 (hM.later J) (hX.later J) s hg p V q fun k hk=>by
    have h2:=hdo k hk;rw [sz] at h2;exact (h2.2.edit h2.1).1
   rw [lD_len];exact h'
  have x:Hid (∀ w0 w' gC a,Bl w w0→Bl w0 w'→w0.heap.size≤gC→bU w' gC (wrTo D n (caL D n l) (lD ys) (lD ys).length)→prodN D n≤a→a≤9223372036854775807→Calls Tryz.prog 28 #[.agg #[.slice A0 n E],.slice (some ⟨gC,0,none⟩) (prodN D n) a,.slice Ax ys.length cx] w' fun e w''=>e=.returned (.tuple #[.int .i64 (doN D n l (lD ys):Nat),.nilIface])∧bU w'' gC (caL D n (doL D n l (lD ys)))∧Bl w0 w''):=fun w0 w' gC a J s hg p q o=>xp A0 E n D A C Ax cx ys gC a l w0 w' hr K P (hM.later J) (hX.later J) s hg p q o
  have i:Hid (∀ (w4:World) B c us gC a,b7 w4 B c us→lE us=(editsV D n l (lD ys)).1→eX w.heap.size B→dS w.heap.size us→Bl w w4→w.heap.size≤gC→bU w4 gC (caL D n (doL D n l (lD ys)))→prodN D n≤a→a≤9223372036854775807→(∃ S',HV ((w4.setCell ⟨h,1,none⟩ (.slice B us.length c)).setCell ⟨h,2,none⟩ (.slice (some ⟨gC,0,none⟩) (prodN D n) a)) h S' D n (doL D n l (lD ys))∧∀ b,S' b→S b∨w.heap.size≤b)∧Kept w.heap.size (fun b=>b=h) w ((w4.setCell ⟨h,1,none⟩ (.slice B us.length c)).setCell ⟨h,2,none⟩ (.slice (some ⟨gC,0,none⟩) (prodN D n) a))):=fun w4 B c us gC a T hle Y Z d M p q o=>by
   have v:∀ b,b≠h→((w4.setCell ⟨h,1,none⟩ (.slice B us.length c)).setCell ⟨h,2,none⟩ (.slice (some ⟨gC,0,none⟩) (prodN D n) a)).heap[b]?=w4.heap[b]?:=fun b m=>(ar _ _ _ _ _ m).trans (ar _ _ _ _ _ m)
   have K0:((w4.setCell ⟨h,1,none⟩ (.slice B us.length c)).setCell ⟨h,2,none⟩ (.slice (some ⟨gC,0,none⟩) (prodN D n) a)).heap.size=w4.heap.size:=by simp
   have u9:((w4.setCell ⟨h,1,none⟩ (.slice B us.length c)).setCell ⟨h,2,none⟩ (.slice (some ⟨gC,0,none⟩) (prodN D n) a)).os=w4.os∧((w4.setCell ⟨h,1,none⟩ (.slice B us.length c)).setCell ⟨h,2,none⟩ (.slice (some ⟨gC,0,none⟩) (prodN D n) a)).tape=w4.tape∧((w4.setCell ⟨h,1,none⟩ (.slice B us.length c)).setCell ⟨h,2,none⟩ (.slice (some ⟨gC,0,none⟩) (prodN D n) a)).output=w4.output:=⟨rfl,rfl,rfl⟩;have hnew:((w4.setCell ⟨h,1,none⟩ (.slice B us.length c)).setCell ⟨h,2,none⟩ (.slice (some ⟨gC,0,none⟩) (prodN D n) a)).heap[h]?=some (.cells #[.slice A0 n E,.slice B us.length c,.slice (some ⟨gC,0,none⟩) (prodN D n) a] 62 (0,0)):=IF ((d.block h hh).trans j) _ _;generalize (w4.setCell ⟨h,1,none⟩ (.slice B us.length c)).setCell ⟨h,2,none⟩ (.slice (some ⟨gC,0,none⟩) (prodN D n) a)=w5 at v K0 hnew u9 ⊢;refine ⟨⟨fun b=>S b∨(w.heap.size≤b∧b<w4.heap.size),⟨fun b m=>?_,⟨hr,hl2⟩,Or.inl U,A0,E,A,C,B,c,us,gC,0,a,hnew,hle.trans HV1.out.symm,q,o,fun w' hs m=>?_⟩,fun b m=>m.imp id fun h=>h.1⟩,?_⟩
   ·rw [K0]
    rcases m with m | m
    ·exact zW (F b m) d.size
    exact m.2
   ·rw [K0] at hs
    have hag:∀ b,w.heap.size≤b→b<w4.heap.size→w'.heap[b]?=w4.heap[b]?:=fun b h1 h2=>(m b (Or.inr ⟨h1,h2⟩) (by omega)).trans (v b (by omega))
    exact ⟨(X w' (zV d.size hs) fun b hb1 u=>((m b (Or.inl hb1) u).trans (v b u)).trans (d.block b (F b hb1))).1,T.frame Y Z hs hag,p.celAt.same hs (hag gC M p.lt)⟩
   exact ⟨u9.1.trans d.os,u9.2.1.trans d.tape,u9.2.2.trans d.output,by rw [K0];exact d.size,fun k hk hn=>(v k hn).trans (d.block k hk)⟩
  have y:Hid (∀ w4,Bl w w4→w4.cell? ⟨h,0,none⟩=some (.slice A0 n E)∧w4.cell? ⟨h,1,none⟩=some (.slice Ae zs.length ce)∧w4.cell? ⟨h,2,none⟩=some (.slice (some ⟨gc,oc,none⟩) (prodN D n) cc)∧w4.frozen? ⟨h,1,none⟩=false∧w4.frozen? ⟨h,2,none⟩=false∧h<w4.heap.size):=fun w4 m=>by
   have k:=(m.block h hh).trans j;exact ⟨(Lib.cell_of_heap k 0).trans rfl,(Lib.cell_of_heap k 1).trans rfl,(Lib.cell_of_heap k 2).trans rfl,Lib.frozen_of_heap k 1,Lib.frozen_of_heap k 2,zW hh m.size⟩
  generalize caL D n (doL D n l (lD ys))=CL2 at x i;generalize wrTo D n (caL D n l) (lD ys) (lD ys).length=CL1 at I x;generalize caL D n l=CL0 at HCl I;generalize prodN D n=N at HCl I x i y c2;generalize doN D n l (lD ys)=NN at x ⊢;generalize doL D n l (lD ys)=l2 at i ⊢;generalize (editsV D n l (lD ys)).1=ev at f i;generalize (editsV D n l (lD ys)).2.1=ek at f;generalize zs.length=zl at c1 Q f y;generalize ys.length=yl at f I x ⊢;clear H HH F hr K U j hlz hcc hc9 X hM hEn hC hE V hp1 hp3 hX P O W hdo hl2 HV1
  go_enter Tryz.func10,Tryz.ntmps10
  go_wp2_with fail
  go_cut [6,7,8] from 12 (fun s6 s7 s8 wx=>s8=.nilIface∧∃ B c us,s6=.slice B us.length c∧b7 wx B c us∧lE us=ev∧eX w.heap.size B∧dS w.heap.size us∧Bl w wx)
  case first =>
   go_region_held3 (fun w'=>Bl w w'∧w'.cell? ⟨h,0,none⟩=some (.slice A0 n E)∧w'.cell? ⟨h,1,none⟩=some (.slice Ae zl ce))
    ((refine Fk Q.out ?_;go_grown;done))
    (first
     | (go_at_call 25;refine (f.out _ (by go_grown)).mono ?_;rintro e wa ⟨⟨Ba,ca,us,rfl,hua,hul,hun,hue⟩,L⟩;have hNa:=ae (W0:=w) (by go_grown) L;have hsa:=hNa.size;clear L))
   all_goals go_wp2_with fail
   all_goals go_meet
   all_goals exact ⟨rfl,_,_,us,rfl,hua.later (by go_grown),hul,hun,hue,by go_grown⟩
  case rest =>
  obtain ⟨rfl,B,c,us,rfl,T,hlu,Y,Z,t⟩:=hcut;obtain ⟨w1,rfl⟩:∃ wd:World,wd=wc:=⟨_,rfl⟩;have R:Hid (b7 w1 B c us∧lE us=ev∧eX w.heap.size B∧dS w.heap.size us):=⟨T,hlu,Y,Z⟩;have r:=aa t;obtain ⟨x0,x1,x2,-,-,hh1⟩:=y.out w1 t;have h1:=HCl.out w1 t;clear T hlu Y Z t c0 c1 c2;go_wp2_with fail;refine h1.mono ?_;rintro e w2 ⟨⟨gC,a,rfl,M,q,o,p⟩,u⟩;have HB2:=aa u;obtain ⟨y0,-,-,-,-,hh2⟩:=y.out w2 (ae r.out u);have h2:=I.out w1 w2 gC a r.out u M p q;clear x0 x1 x2 u h1 p;go_wp2_with fail;refine h2.mono ?_;rintro e w3 ⟨rfl,hC3,hb3⟩;obtain ⟨z0,-,-,-,-,hh3⟩:=y.out w3 (ae r.out hb3);have h3:=x.out w1 w3 gC a r.out hb3 M hC3 q o;clear y0 hb3 hC3 h2;go_wp2_with fail;refine h3.mono ?_;rintro e w4 ⟨rfl,hC4,d⟩;obtain ⟨-,v1,v2,f1,f2,hh4⟩:=y.out w4 (ae r.out d);have G:=aa (i.out w4 B c us gC a (R.out.1.later d) R.out.2.1 R.out.2.2.1 R.out.2.2.2 (ae r.out d) (zV r.out.size M) hC4 q o);clear z0 d hC4 h3;go_wp2_with fail;go_returns;obtain ⟨⟨S',hH',hS'⟩,hK⟩:=G.out;exact ⟨⟨S',rfl,hH',hS'⟩,hK⟩
 have W:doL D n l (lD ys)=l:=by unfold doL;rw [if_neg P]
 have hdn:doN D n l (lD ys)=0:=by unfold doN;rw [if_neg P]
 rw [W,hdn,ak P];rw [ak P] at f;have i:Hid (∀ w',Bl w w'→(∃ S',HV w' h S' D n l∧∀ b,S' b→S b∨w.heap.size≤b)∧Kept w.heap.size (fun b=>b=h) w w'):=fun w' s=>⟨⟨S,HH.out.keep s.size fun b m=>s.block b (F b m),fun b m=>Or.inl m⟩,aw s (zT)⟩
 generalize (editsV D n l (lD ys)).1=ev at f;generalize (editsV D n l (lD ys)).2.1=ek at f;generalize doE D n l (lD ys)=z at f;generalize zs.length=zl at c1 Q f;generalize ys.length=yl at f ⊢;clear H HH F hr K U j hlz hcc hc9 X hM hEn hC hE V hp1 hp3 hX P W hdn
 go_enter Tryz.func10,Tryz.ntmps10
 go_wp2_with fail
 go_cut [6,7,8] from 12 (fun s6 s7 s8 wx=>s8=.iface 63 (.int .i64 z)∧Bl w wx)
 case first =>
  go_region_held3 (fun w'=>Bl w w'∧w'.cell? ⟨h,0,none⟩=some (.slice A0 n E)∧w'.cell? ⟨h,1,none⟩=some (.slice Ae zl ce))
   ((refine Fk Q.out ?_;go_grown;done))
   (first
    | (go_at_call 25;refine (f.out _ (by go_grown)).mono ?_;rintro e wa ⟨⟨Ba,ca,us,rfl,-,-,-,-⟩,L⟩;have hNa:=ae (W0:=w) (by go_grown) L;have hsa:=hNa.size;clear L))
  all_goals go_wp2_with fail
  all_goals go_meet
  all_goals exact ⟨rfl,by go_grown⟩
 case rest =>
 obtain ⟨rfl,t⟩:=hcut;obtain ⟨w1,rfl⟩:∃ wd:World,wd=wc:=⟨_,rfl⟩;have G:=aa (i.out w1 t);clear t;go_wp2_with fail;go_returns;obtain ⟨⟨S',hH',hS'⟩,hK⟩:=G.out;exact ⟨⟨S',rfl,hH',hS'⟩,hK⟩
theorem Hp (h:Nat) (S:Nat→Prop) (D:Nat→Dm) (n:Nat) (l:List En) (Ax:Option Addr) (a:Nat) (ys:List EdL) (w:World) (H:HV w h S D n l) (f:ks w Ax a ys) :
  Calls Tryz.prog 10 #[.pointer (some ⟨h,0,none⟩),.slice Ax ys.length a] w fun e w'=>(∃ S',e=.returned (.tuple #[.int .i64 (doN D n l (lD ys):Nat),errV (doE D n l (lD ys))])∧HV w' h S' D n (doL D n l (lD ys))∧∀ b,S' b→S b∨w.heap.size≤b)∧Kept w.heap.size S w w' :=
 (un h S D n l Ax a ys w H f).mono fun _ _ ⟨c,d⟩=>⟨c,d.wide fun k e=>by rw [e];exact H.2.2.1⟩
theorem HV.box {w:World} {h:Nat} {S:Nat→Prop} {D:Nat→Dm} {n:Nat} {l:List En} (H:HV w h S D n l) (o:Nat) (k:IntKind) (z:Int):w.cell? ⟨h,o,none⟩≠some (.int k z):=fun e=>by
 obtain ⟨-,-,-,A0,d,A,C,Ae,c,zs,gc,oc,b,a,-⟩:=H;rw [Lib.cell_of_heap a] at e
 rcases o with _ | _ | _ | o
 ·cases e
 ·cases e
 ·cases e
 simp at e
theorem aZ.box {w w':World} {h:Nat} {A:Option Addr} {c:Nat} {L:List Int} (p:aZ w A c L) (q:∀ o k z,w.cell? ⟨h,o,none⟩≠some (.int k z)) (m:Kept w.heap.size (fun b=>b=h) w w'):aZ w' A c L:=by
 obtain ⟨d,f | ⟨b,o,f,i,l⟩⟩:=p
 ·exact ⟨d,Or.inl f⟩
 by_cases n:L.length=0
 ·exact ⟨d,Or.inl (List.eq_nil_of_length_eq_zero n)⟩
 have g:b≠h:=fun e=>q (o+0) _ _ (by rw [←e];exact l 0 (by omega))
 exact ⟨d,Or.inr ⟨b,o,f,zW i m.size,fun j r=>(World.cell?_of_block (a:=⟨b,o+j,none⟩) (m.block b i g)).trans (l j r)⟩⟩
theorem b7.box {w w':World} {h:Nat} {A:Option Addr} {c:Nat} {xs:List EnL} (p:b7 w A c xs) (n:∀ o k z,w.cell? ⟨h,o,none⟩≠some (.int k z)) (l:Kept w.heap.size (fun b=>b=h) w w'):b7 w' A c xs:=by
 obtain ⟨g,f,i | ⟨b,o,i,d⟩⟩:=p
 ·exact ⟨g,f,Or.inl i⟩
 by_cases r:xs.length=0
 ·exact ⟨g,f,Or.inl (List.eq_nil_of_length_eq_zero r)⟩
 have m:b≠h:=fun e=>n _ _ _ (by rw [←e];exact (d.at (k:=0) (by omega)).2)
 exact ⟨g,f,Or.inr ⟨b,o,i,zW d.1 l.size,fun j u q=>(World.cell?_of_block (a:=⟨b,o+j,none⟩) (l.block b d.1 m)).trans (d.2.1 j u q),fun x s=>(d.2.2 x s).box n l⟩⟩
theorem mo:HallC HV where
 keep:=fun H c a=>H.keep c a
 inS:=fun H b a=>H.1 b a
 right:=fun H=>H.2.1
 bad:=um
 new:=uo
 edit:=Hp
 cells:=oZ
 entries:=lh
end Go.Proofs.YtohgnbgamfepoaaGreatDoor
