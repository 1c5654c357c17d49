/- The cells that are dir -/
import Derived.Test.YtompdcaikmekkaaGreatDoorJHBN
namespace Go.Proofs.YtompdcaikmekkaaGreatDoor
open ChangeShapes WideShapes ChangeAt RowKit
set_option maxRecDepth 99999
set_option maxHeartbeats 0
theorem Eb:(131:Nat)≠52:=by decide
theorem Bp:(9:Nat)≠52:=by decide
theorem qG:(3:Nat)≠52:=by decide
theorem Bq:(154:Nat)≠52:=by decide
theorem Ea:(142:Nat)≠52:=by decide
theorem Ec:(144:Nat)≠52:=by decide
theorem eB.keepC {w w':World} {x:WL} (h:eB w x) (c:kn 52 w w'):eB w' x :=
 ⟨h.1.keep fun b cs fr a=>c b cs _ fr a Eb,h.2.1.keep fun b cs fr a=>c b cs _ fr a Bp,h.2.2.1.keep fun b cs fr a=>c b cs _ fr a qG,h.2.2.2.keep fun b cs fr a=>c b cs _ fr a qG⟩
theorem ip.keepC {w w':World} {A:Option Addr} {cap:Nat} {xs:List WL} (h:ip w A cap xs) (c:kn 52 w w'):ip w' A cap xs:=by
 obtain ⟨d,a,e⟩:=h;refine ⟨d,?_,fun x f=>(e x f).keepC c⟩
 rcases a with a | ⟨b,cs,fr,a,h4,h5⟩
 ·exact Or.inl a
 exact Or.inr ⟨b,cs,fr,a,(c b cs _ fr h4 Bq).trans h4,h5⟩
theorem cI.keepC {w w':World} {q g n:Nat} {D:Nat→Dm} {X:Nat→AL} (h:cI w q g n D X) (e:kn 52 w w'):cI w' q g n D X:=by
 obtain ⟨f,d,j,k,c⟩:=h;exact ⟨(e _ _ _ _ f Ec).trans f,d,(e _ _ _ _ j Ea).trans j,k,fun i a b=>⟨(c i a b).1,(c i a b).2.1,(c i a b).2.2.1.keepC e,(c i a b).2.2.2⟩⟩
theorem Cp {w:World} {g x:Nat} {cs:Array Value} {fr:Nat×Nat} {a b:Value} (h:w.heap[g]?=some (.cells cs 52 fr)):kn 52 w ((w.setCell ⟨g,x,none⟩ a).setCell ⟨g,x+1,none⟩ b):=eF (et h) (et (cH h))
theorem BN (A:Option Addr) (cap:Nat) (L:List Int) (x:Int) (w:World) (k:L.length≤3000) (d:aR w A cap L) (g:L.Pairwise (· < ·)):Calls Tryz.prog 56 #[.slice A L.length cap,.int .i64 x] w fun e w'=>(∃ i:Nat,e=.returned (.tuple #[.int .i64 i,.bool (nA L x)]))∧Bl w w':=by
 obtain ⟨-,-,a | ⟨b,cs,fr,rfl,-,c⟩⟩:=d
 ·subst a
  refine Calls.mono (Any.slices_BinarySearch_int_empty Tryz.lays25 A cap x w) ?_;rintro e w' ⟨rfl,rfl⟩;exact ⟨⟨0,by simp [nA]⟩,zS⟩
 refine Calls.mono (Any.slices_BinarySearch_int Tryz.lays25 b 0 L.length cap L x w (zT) (by omega) (fun j f=>by rw [Nat.zero_add];exact c j f) (by rw [List.take_length];exact g.imp fun h=>by omega)) ?_
 rintro e w' ⟨rfl,q,rfl⟩;rw [List.take_length];have:L.contains x=nA L x:=by unfold nA;rw [Bool.eq_iff_iff];simp
 rw [this];exact ⟨⟨_,rfl⟩,ac (zS) _⟩
theorem EZ {W w':World} {q:Nat} {v:Value} (h:q<W.heap.size∧W.cell? ⟨q,0,none⟩=some v) (a:Bl W w'):Bl W w'∧w'.cell? ⟨q,0,none⟩=some v:=⟨a,aD a h.1 h.2⟩
theorem wZ (A0:Option Addr) (cap n:Nat) (D:Nat→Dm) (A:Nat→Option Addr) (C:Nat→Nat) (Ax:Option Addr) (cx:Nat) (ys:List EdL) (gC cC:Nat) (l:List En) (w0 w:World) (T:(aP D n).2.2=0) (hl:Ens D n l) (h0:doE D n l (lD ys)=0) (hM:aY w0 A0 cap n D A C) (hX:km w0 Ax cx ys) (hB:Bl w0 w) (hg:w0.heap.size≤gC) (hC:bT w gC (wrTo D n (caL D n l) (lD ys) (lD ys).length)) (hcc:prodN D n≤cC) (hc9:cC≤9223372036854775807) :
  Calls Tryz.prog 28 #[.agg #[.slice A0 n cap],.slice (some ⟨gC,0,none⟩) (prodN D n) cC,.slice Ax ys.length cx] w fun e w'=>e=.returned (.tuple #[.int .i64 (doN D n l (lD ys):Nat),.nilIface])∧bT w' gC (caL D n (doL D n l (lD ys)))∧Bl w0 w':=by
 have Y:=aq w A0 n cap 24;have hS:=aw w A0 n cap 24;have hA:=aI w A0 n cap 24;obtain ⟨W,hW⟩:∃ W,ay w A0 n cap 24=W:=⟨_,rfl⟩;rw [hW] at Y hS hA;unfold ay at hW;obtain ⟨hE,hR⟩:=ew T;have hl2:=wH hl (lD ys);obtain ⟨S,-,-⟩:=jm hl h0;rw [lD_len] at S;obtain ⟨dz,dl,dn⟩:=oB T hl h0;have hgw:gC<w.heap.size:=hC.lt;have x:Hid (Bl w0 W):=ae hB Y;have HBx:Hid (w.heap.size<W.heap.size∧W.cell? ⟨w.heap.size,0,none⟩=some (.slice A0 n cap)):=⟨by omega,hA⟩
 have HPl:Hid (∀ w',Bl W w'→Calls Tryz.prog 54 #[.slice Ax ys.length cx] w' fun e w''=>(∃ A' c,e=.returned (.slice A' ys.length c)∧rT w'' A' c (plD ys))∧Bl w' w''):=fun w' o=>sO Ax cx ys w' S (hX.later (ae x.out o))
 have U:Hid (∀ w' A' c,Bl W w'→rT w' A' c (plD ys)→Calls Tryz.prog 53 #[.agg #[.slice A0 n cap],.slice A' ys.length c] w' fun e w''=>(∃ A2 c2,e=.returned (.tuple #[.slice A2 (drtL D n (numsY D n (lD ys))).length c2,.nilIface])∧aR w'' A2 c2 (drtL D n (numsY D n (lD ys))))∧Bl w' w''):=fun w' A' c o hP'=>by
  have h:=Fe A0 cap n D A C A' c (plD ys) w' (hM.later (ae x.out o)) hP' (by rw [plD_len];omega)
  rw [Jb,dz,dl,errV_zero,plD_len] at h;exact h
 have V:Hid (∀ w',Bl W w'→Calls Tryz.prog 55 #[.agg #[.slice A0 n cap]] w' fun e w''=>(∃ A' c,e=.returned (.tuple #[.slice A' (prodN D n) c,.nilIface])∧aR w'' A' c (coL D n))∧Bl w' w''):=fun w' o=>by
  have h:=Er A0 cap n D A C w' (hM.later (ae x.out o));rw [T,errV_zero,oj T] at h;exact h
 have HNw:Hid (∀ w',Bl W w'→Calls Tryz.prog 36 #[.agg #[.slice A0 n cap]] w' fun e w''=>(∃ q g X,e=.returned (.tuple #[.pointer (some ⟨q,0,none⟩),.nilIface])∧cI w'' q g n D X)∧Bl w' w''):=fun w' o=>by
  refine (nD A0 cap n D A C w' hE hR (hM.later (ae x.out o))).mono ?_;rintro e w'' ⟨⟨q,g,X,rfl,-,-,hP⟩,hb⟩;exact ⟨⟨q,g,X,rfl,hP⟩,hb⟩
 have hd3:(drtL D n (numsY D n (lD ys))).length≤3000:=pP hE _;have HFi:Hid (∀ w' A' c (m:Nat),aR w' A' c (drtL D n (numsY D n (lD ys)))→Calls Tryz.prog 56 #[.slice A' (drtL D n (numsY D n (lD ys))).length c,.int .i64 m] w' fun e w''=>(∃ i:Nat,e=.returned (.tuple #[.int .i64 i,.bool (nA (drtL D n (numsY D n (lD ys))) m)]))∧Bl w' w''):=fun w' A' c m h=>BN A' c _ m w' hd3 h (fh _ _)
 obtain ⟨-,-,hp3,-⟩:=au hE;have f:Hid (∀ k L,k<prodN D n→Be D n (doL D n l (lD ys)) (drtL D n (numsY D n (lD ys))) (coL D n) k L→∃ m:Nat,(coL D n).getD k 0=(m:Int)∧m<prodN D n∧(∀ z∈ndsX D n m,b5 (L.getD z.toNat noC))∧Be D n (doL D n l (lD ys)) (drtL D n (numsY D n (lD ys))) (coL D n) (k+1) (L.set m (qg D n L m))∧(nA (drtL D n (numsY D n (lD ys))) (m:Int)=false→Be D n (doL D n l (lD ys)) (drtL D n (numsY D n (lD ys))) (coL D n) (k+1) L)∧(coL D n).take (k+1)=(coL D n).take k ++ [(m:Int)]):=fun k L hk h=>DW T hl2 hk h
 have E:Hid (∀ k L,Be D n (doL D n l (lD ys)) (drtL D n (numsY D n (lD ys))) (coL D n) k L→L.length=prodN D n):=fun k L h=>h.1
 have HTl:Hid (∀ qp g X L m w',cI w' qp g n D X→bT w' gC L→L.length=prodN D n→m<prodN D n→(∀ z∈ndsX D n m,b5 (L.getD z.toNat noC))→Calls Tryz.prog 39 #[.pointer (some ⟨qp,0,none⟩),.slice (some ⟨gC,0,none⟩) (prodN D n) cC,.int .i64 m] w' fun e w''=>e=.returned (.tuple #[.agg #[.int .i64 (qg D n L m).1,.int .i64 (qg D n L m).2],.nilIface])∧Bl w' w''):=fun qp g X L m w' hP hC r hm Q=>ry qp g n D X m (some ⟨gC,0,none⟩) cC L w' hR hE hm hP r ⟨by rw [r];exact hcc,hc9,Or.inr ⟨gC,0,rfl,hC.celAt⟩⟩ Q
 have b:Hid (∀ L,Be D n (doL D n l (lD ys)) (drtL D n (numsY D n (lD ys))) (coL D n) (prodN D n) L→L=caL D n (doL D n l (lD ys))):=fun L h=>GL T hl2 h
 have y:Hid (doN D n l (lD ys)=cntD (drtL D n (numsY D n (lD ys))) (coL D n) (prodN D n)):=dn.trans (GU T).symm;have d:Hid (Be D n (doL D n l (lD ys)) (drtL D n (numsY D n (lD ys))) (coL D n) 0 (wrTo D n (caL D n l) (lD ys) (lD ys).length)):=Bj T hl h0 _;have F:Hid ((coL D n).length=prodN D n):=oj T;have HC0:Hid (bT W gC (wrTo D n (caL D n l) (lD ys) (lD ys).length)):=hC.later Y;generalize wrTo D n (caL D n l) (lD ys) (lD ys).length=L0 at d HC0;generalize caL D n (doL D n l (lD ys))=CA at b ⊢;generalize doN D n l (lD ys)=NN at y ⊢;generalize doL D n l (lD ys)=l2 at f E b d;generalize drtL D n (numsY D n (lD ys))=DR at U HFi f E b y d;generalize coL D n=O at V f E b y d F;obtain ⟨N,hN⟩:∃ N,prodN D n=N:=⟨_,rfl⟩;rw [hN] at V f E HTl b y F hp3 hcc ⊢;have hNI:(N:Int)≤3000:=by omega
 have hcI:(N:Int)≤(cC:Int):=by omega
 generalize ys.length=yl at HPl U ⊢;clear hM hX hB hC Y hS hA hE hR hl hl2 h0 T S dz dl dn hd3 hN
 go_enter Tryz.func28,Tryz.ntmps28
 go_wp2_with fail
 go_cut [8,9] from 17 (fun s8 s9 wx=>s9=.nilIface∧∃ A' c,s8=.slice A' DR.length c∧aR wx A' c DR∧Bl W wx)
 case first =>
  go_region_held3 (fun w'=>Bl W w'∧w'.cell? ⟨w.heap.size,0,none⟩=some (.slice A0 n cap))
   ((refine EZ HBx.out ?_;go_grown;done))
   (first
    | (go_at_call 54;refine (HPl.out _ (by go_grown)).mono ?_;rintro e wa ⟨⟨Aa,ca,rfl,hpa⟩,hba⟩;have hNa:=ae (W0:=W) (by go_grown) hba;have hsa:=hNa.size;clear hba)
    | (go_at_call 53;refine (U.out _ _ _ (by go_grown) (hpa.later (by go_grown))).mono ?_;rintro e wb ⟨⟨Ab,cb,rfl,hIb⟩,hbb⟩;have hNb:=ae (W0:=W) (by go_grown) hbb;have hsb:=hNb.size;clear hbb))
  all_goals go_wp2_with fail
  all_goals go_meet
  all_goals exact ⟨rfl,_,_,rfl,hIb.later (by go_grown),by go_grown⟩
 case rest =>
 clear hW;obtain ⟨rfl,Ad,cd,rfl,hId,I⟩:=hcut;obtain ⟨w1,rfl⟩:∃ wd:World,wd=wc:=⟨_,rfl⟩;have HId:=aa hId;have HB1:=aa I;obtain ⟨x1,x2⟩:=EZ HBx.out I;have hs1:w.heap.size<w1.heap.size:=Nat.lt_of_lt_of_le HBx.out.1 I.size;have ho:=V.out w1 I;clear hId I x1;go_wp2_with fail;refine ho.mono ?_;rintro e w2 ⟨⟨Ao,co,rfl,hIo⟩,M⟩;have HIo:=aa hIo;have HId2:=aa (HId.out.later M);have HB2:Hid (Bl W w2):=ae HB1.out M;have c2:=(M.cell (p:=⟨w.heap.size,0,none⟩) hs1).trans x2;have hs2:w.heap.size<w2.heap.size:=Nat.lt_of_lt_of_le hs1 M.size;have hnw:=HNw.out w2 HB2.out;clear hIo M ho x2;go_wp2_with fail;refine hnw.mono ?_;rintro e w3 ⟨⟨q,g,X,rfl,hP3⟩,P⟩;have HRel:Hid (bT w3 gC L0∧cI w3 q g n D X∧aR w3 Ad cd DR∧aR w3 Ao co O∧Bl w0 w3):=⟨HC0.out.later (ae HB2.out P),hP3,HId2.out.later P,HIo.out.later P,ae x.out (ae HB2.out P)⟩;clear hP3 P hnw c2 HIo HId2 HId HNw V U HPl HC0;go_wp2_with fail
 go_loopg [9,12,45] N (fun gg s9 s12 s45 wr => ∃ (k:Nat),k≤N∧gg=N-k∧s45=.int .i64 k∧s12=.int .i64 (cntD DR O k:Nat)∧s9=.nilIface∧Hid (∃ L,bT wr gC L∧Be D n l2 DR O k L)∧Hid (cI wr q g n D X∧aR wr Ad cd DR∧aR wr Ao co O∧Bl w0 wr))
 case atStart=>exact ⟨0,Nat.zero_le _,rfl,rfl,rfl,rfl,aa ⟨L0,HRel.out.1,d.out⟩,aa HRel.out.2⟩
 case round =>
  obtain ⟨k,hk,rfl,rfl,rfl,rfl,HL,HI⟩:=hrel
  by_cases hlt:k<N
  ·have hki:(k:Int)<(N:Int):=by omega
   obtain ⟨L,j,t⟩:=HL.out;obtain ⟨m,hm,hmN,Q,G,H,htk⟩:=f.out k L hlt t;have r:=E.out k L t;obtain ⟨hP,J,K,Z⟩:=HI.out;obtain ⟨hcS,-,hS0 | ⟨bs,cs,fr,rfl,hbS,hcl⟩⟩:=id K
   ·have:=F.out;rw [hS0] at this;simp at this;omega
   have cx:=hcl k (by rw [F.out];exact hlt)
   have hbs:bs<wr.heap.size:=(Array.getElem?_eq_some_iff.1 hbS).1;rw [F.out] at hcS;rw [hm] at cx;have hcSI:(N:Int)≤(co:Int):=by omega
   have hmI:(m:Int)<(N:Int):=by omega
   have v:=HFi.out wr Ad cd m J;have hck:=GT DR O k;have hckI:((cntD DR O k:Nat):Int)≤(k:Int):=by omega
   cases hin:nA DR (m:Int)
   ·have HN1:Hid (∀ w5,Bl wr w5→(∃ L,bT w5 gC L∧Be D n l2 DR O (k+1) L)∧cI w5 q g n D X∧aR w5 Ad cd DR∧aR w5 (some ⟨bs,0,none⟩) co O∧Bl w0 w5):=fun w5 a=>⟨⟨L,j.later a,H hin⟩,hP.later a,J.later a,K.later a,ae Z a⟩
    have B:=aa (Eo htk hin);rw [hin] at v;clear hcl hbS hm Q t G H htk j hP J K Z hin r;generalize cntD DR O k=ck at B hck hckI;go_wp2_with fail;refine v.mono ?_;rintro e w5 ⟨⟨i,rfl⟩,a⟩;have HN2:=aa (HN1.out w5 a);clear a v;go_wp2_with fail
    go_roundg (N-(k+1))
    case measure=>omega
    case rel=>exact ⟨k+1,by omega,rfl,by go_num,by rw [B.out],rfl,aa HN2.out.1,aa HN2.out.2⟩
   ·have B:=aa (GV htk hin)
    have HAS2:=aa G;have HLl:=aa r;have HN1:Hid (∀ w5,Bl wr w5→bT w5 gC L∧cI w5 q g n D X∧aR w5 Ad cd DR∧aR w5 (some ⟨bs,0,none⟩) co O∧Bl w0 w5):=fun w5 a=>⟨j.later a,hP.later a,J.later a,K.later a,ae Z a⟩
    have HTc:Hid (∀ w5,Bl wr w5→Calls Tryz.prog 39 #[.pointer (some ⟨q,0,none⟩),.slice (some ⟨gC,0,none⟩) N cC,.int .i64 m] w5 fun e w''=>e=.returned (.tuple #[.agg #[.int .i64 (qg D n L m).1,.int .i64 (qg D n L m).2],.nilIface])∧Bl w5 w''):=fun w5 a=>HTl.out q g X L m w5 (hP.later a) (j.later a) r hmN Q
    rw [hin] at v;clear hcl hbS hm Q t G H htk j hP J K Z hin r;obtain ⟨⟨ra,rb⟩,hRe⟩:∃ R,qg D n L m=R:=⟨_,rfl⟩;rw [hRe] at HTc HAS2;simp only at HTc;clear hRe;generalize cntD DR O k=ck at B hck hckI;go_wp2_with fail;refine v.mono ?_;rintro e w5 ⟨⟨i,rfl⟩,a⟩;have HB5:=aa a;have htc:=HTc.out w5 a;clear a v;go_wp2_with fail;refine htc.mono ?_;rintro e w6 ⟨rfl,hb6⟩;obtain ⟨u,hP6,hI6,hO6,hB6⟩:=HN1.out w6 (ae HB5.out hb6);obtain ⟨r0,r1⟩:=u.at (k:=m) (by rw [HLl.out];exact hmN)
    have f0:=u.frozen (m*2);have f1:=u.frozen (m*2+1);have hgl:=u.lt;have HC7:Hid (bT ((w6.setCell ⟨gC,m*2,none⟩ (.int .i64 ra)).setCell ⟨gC,m*2+1,none⟩ (.int .i64 rb)) gC (L.set m (ra,rb))):=u.set (by rw [HLl.out];exact hmN) ra rb
    obtain ⟨cur,s,-⟩:=u;have HR7:Hid (cI ((w6.setCell ⟨gC,m*2,none⟩ (.int .i64 ra)).setCell ⟨gC,m*2+1,none⟩ (.int .i64 rb)) q g n D X∧aR ((w6.setCell ⟨gC,m*2,none⟩ (.int .i64 ra)).setCell ⟨gC,m*2+1,none⟩ (.int .i64 rb)) Ad cd DR∧aR ((w6.setCell ⟨gC,m*2,none⟩ (.int .i64 ra)).setCell ⟨gC,m*2+1,none⟩ (.int .i64 rb)) (some ⟨bs,0,none⟩) co O∧Bl w0 ((w6.setCell ⟨gC,m*2,none⟩ (.int .i64 ra)).setCell ⟨gC,m*2+1,none⟩ (.int .i64 rb))):=⟨hP6.keepC (Cp s),me hI6 s,me hO6 s,(hB6.setCell hg _).setCell hg _⟩;clear hb6 htc s hP6 hI6 hO6 hB6;go_wp2_with fail
    go_roundg (N-(k+1))
    case measure=>omega
    case rel=>exact ⟨k+1,by omega,rfl,by go_num,by rw [B.out];go_num,rfl,aa ⟨_,HC7.out,HAS2.out⟩,HR7⟩
  ·have hke:k=N:=by omega
   subst hke;have HF:Hid (bT wr gC CA∧Bl w0 wr):=by
    obtain ⟨L,j,t⟩:=HL.out;have hLe:=b.out L t;rw [hLe] at j;exact ⟨j,HI.out.2.2.2⟩
   go_wp2_with fail;go_returns;refine ⟨?_,HF.out⟩;rw [y.out]
   rfl
def Bf (w1:World) (g N:Nat) (f:Nat→Bool) (w:World):Prop:=fQ w g N f∧Below g w1 w
theorem Bf.put {w1 w:World} {g N i:Nat} {f:Nat→Bool} (h:Bf w1 g N f w):Bf w1 g N (ic f i) (w.setCell ⟨g,i,none⟩ (.bool true)):=⟨h.1.set fun _ _=>rfl,ir h.2 (zT)⟩
def vW (D:Nat→Dm) (n N:Nat) (Q:List Int) (f:Nat→Bool):Prop:=(∀ a:Nat,(a:Int)∈Q→f a=true)∧∀ j,j<N→f j=true→∃ a:Nat,(a:Int)∈Q∧Ndd D n j a
theorem CF {f:Nat→Bool} {i j:Nat} (h:f j=true):ic f i j=true:=by unfold ic;split <;> simp_all
theorem vW.put {D:Nat→Dm} {n N i z:Nat} {Q:List Int} {f:Nat→Bool} (h:vW D n N Q f) (m:z<N) (c:f z=true) (l:Bi D n i z):vW D n N Q (ic f i):=by
 refine ⟨fun a b=>CF (h.1 a b),fun j d k=>?_⟩
 by_cases e:j=i
 ·subst e
  obtain ⟨a,b,g⟩:=h.2 z m c;exact ⟨a,b,.step l g⟩
 exact h.2 j d (by simpa [ic,e] using k)
def tr (ys:List RL) (f:Nat→Bool) (ag:Bool) (i:Nat):Prop:=ag=false→∀ j,j<i→f j=false→∀ z∈(ys.getD j ep).p,f z.toNat=false
def J0 (R:List Int) (f:Nat→Bool) (ag:Bool) (i u:Nat):Prop:=ag=false→f i=false→∀ z∈R.take u,f z.toNat=false
theorem yG (A0:Option Addr) (cap n:Nat) (D:Nat→Dm) (A:Nat→Option Addr) (C:Nat→Nat) (Aq:Option Addr) (cq:Nat) (Q:List Int) (w:World) (hE:(am D n).2.2=0) (hR:dH D n) (hM:aY w A0 cap n D A C) (hQ:a7 w Aq cq Q) (hQz:Q.length≤4611686018427387904) (hQn:∀ z∈Q,∃ j:Nat,z=(j:Int)∧j<prodN D n) :
  Calls Tryz.prog 9 #[.agg #[.slice A0 n cap],.slice Aq Q.length cq] w fun e w'=>(∃ A' c',e=.returned (.slice A' (drtL D n Q).length c')∧aR w' A' c' (drtL D n Q))∧Bl w w':=by
 obtain ⟨i0,hi0,hz0,hz1,hz2⟩:=info_parts Tryz.infoInt;obtain ⟨hn1,hn4,hp3,hd⟩:=au hE;have O:=aq w A0 n cap 24;have hS:=aw w A0 n cap 24;have hA:=aI w A0 n cap 24;obtain ⟨W,hW⟩:∃ W,ay w A0 n cap 24=W:=⟨_,rfl⟩;rw [hW] at O hS hA;unfold ay at hW;have F:=ly A0 cap n D A C W hR hE (hM.later O);have HB0:Hid (Bl w W):=O;have HQ:Hid (a7 w Aq cq Q):=hQ;have HR:Hid (dH D n):=hR;have HE:Hid ((am D n).2.2=0):=hE;obtain ⟨N,hN⟩:∃ N,prodN D n=N:=⟨_,rfl⟩;have HN:Hid (prodN D n=N):=hN;rw [hN] at F hp3 hQn;have HQn:Hid (∀ z∈Q,∃ j:Nat,z=(j:Int)∧j<N):=hQn;have hNI:(N:Int)≤3000:=by omega
 have hmb:=kh N hp3;obtain ⟨ql,S⟩:∃ ql,Q.length=ql:=⟨_,rfl⟩;have B:Hid (Q.length=ql):=S;have hqc:ql≤cq:=by rw [←S];exact hQ.1
 have hqcI:(ql:Int)≤(cq:Int):=by omega
 rw [S] at hQz ⊢;have hqzI:(ql:Int)≤4611686018427387904:=by omega
 clear hE hR hM O hS hd hQ hQn hN S
 go_enter Tryz.func9,Tryz.ntmps9
 go_wp2_with fail;refine F.mono ?_;rintro e w1 ⟨⟨A1,c1,ys,rfl,hyl,hY,hT⟩,hb1⟩;have HB1:Hid (Bl w w1):=ae HB0.out hb1;have HY:Hid (cZ w1 A1 c1 ys):=hY;have HT:Hid (∀ i,i<N→eK D n (aj D n i) (ys.getD i ep).p):=hT;have M:Hid (ys.length=N):=hyl;have HIn:Hid (∀ i,i<N→∀ z∈(ys.getD i ep).p,∃ j:Nat,z=(j:Int)∧j<N):=fun i hi z J=>by
  obtain ⟨j,h1,h2,-⟩:=fD HR.out HE.out (hT i hi) J;exact ⟨j,h1,by rw [←HN.out];exact h2⟩
 obtain ⟨y1,hy1⟩:∃ y,w1.alloc (.cells (madeCells #[.bool false] N) 4)=y:=⟨_,rfl⟩;have X:Bl w1 y1:=by rw [←hy1];go_grown
 have Z:fQ y1 w1.heap.size N fun _=>false:=by rw [←hy1];exact fQ.made w1 N
 have HI0:Hid (Bf w1 w1.heap.size N (ER (Q.take 0)) y1):=⟨Z,X⟩;clear F hb1 hyl hY hT X Z hA hW;go_wp2_with fail;clear hmb hy1
 go_loopg [7] ql (fun gg s7 wr => ∃ (i:Nat),i≤ql∧gg=ql-i∧s7=.int .i64 i∧Hid (Bf w1 w1.heap.size N (ER (Q.take i)) wr))
 case atStart=>exact ⟨0,Nat.zero_le _,rfl,rfl,HI0⟩
 case round =>
  obtain ⟨i,hi,rfl,rfl,HI⟩:=hrel
  by_cases d:i<ql
  ·have hii:(i:Int)<(ql:Int):=by omega
   obtain ⟨hcs,h0 | ⟨bq,oq,rfl,hbq,G⟩⟩:=HQ.out.later (ae HB1.out HI.out.2)
   ·have:=B.out;rw [h0] at this;simp at this;omega
   have ci:=G i (by rw [B.out];exact d)
   have o:Q.getD i 0∈Q:=fX (by rw [B.out];exact d)
   obtain ⟨z,J,U⟩:=HQn.out _ o;have HTk:Hid (Q.take (i+1)=Q.take i ++ [(z:Int)]):=by
    show _=_
    rw [←J,List.take_succ_eq_append_getElem (by rw [B.out];exact d),List.getD_eq_getElem?_getD,List.getElem?_eq_getElem (by rw [B.out];exact d)]
    rfl
   rw [J] at ci;have hzI:(z:Int)<(N:Int):=by omega
   have cz:=HI.out.1.cell U;have fz:=HI.out.1.frozen z;have hgl:=HI.out.1.lt;have g:Hid (Bf w1 w1.heap.size N (ER (Q.take (i+1))) (wr.setCell ⟨w1.heap.size,z,none⟩ (.bool true))):=by
    show Bf ..
    rw [HTk.out];exact ⟨HI.out.1.set fun j _=>ES j,ir HI.out.2 (Nat.le_refl _)⟩
   clear G o J;go_wp2_with fail
   go_roundg (ql-(i+1))
   case measure=>omega
   case rel=>exact ⟨i+1,by omega,rfl,by go_num,g⟩
  ·have H:i=ql:=by omega
   subst H;have HIq:Hid (Bf w1 w1.heap.size N (ER Q) wr):=by
    have h:=HI.out;rw [List.take_of_length_le (by rw [B.out];exact Nat.le_refl _)] at h
    exact h
   have HDq:Hid (vW D n N Q (ER Q)):=⟨fun a ha=>by unfold ER;rw [List.contains_iff_mem];exact ha,fun j _ h=>⟨j,by unfold ER at h;rwa [List.contains_iff_mem] at h,.refl _⟩⟩
   obtain ⟨wq,rfl⟩:∃ wq:World,wq=wr:=⟨_,rfl⟩;obtain ⟨f0,hf0⟩:∃ f0,ER Q=f0:=⟨_,rfl⟩;rw [hf0] at HIq HDq;clear hf0;go_wp2_with fail
   go_loopg [8] (DK f0 true N) (fun gg s8 wr => ∃ (ag:Bool) (f:Nat→Bool),gg=DK f ag N∧s8=.bool ag∧Hid (Bf w1 w1.heap.size N f wr)∧Hid (vW D n N Q f)∧Hid (tr ys f ag N))
   case atStart=>exact ⟨true,f0,rfl,rfl,HIq,HDq,(fun h=>(by cases h):tr ys f0 true N)⟩
   case round =>
    obtain ⟨ag,f,rfl,rfl,HIf,KH,HCf⟩:=hrel;obtain ⟨wo,rfl⟩:∃ wo:World,wo=wr:=⟨_,rfl⟩;cases ag
    ·have HAll:Hid (∀ j,j<N→f j=GX D n Q j):=fun j hj=>by
      have h:=BH HT.out HIn.out KH.out.1 KH.out.2 (HCf.out rfl) j hj;rw [Bool.eq_iff_iff,h,kQ]
     have V:Hid (selTo f N=drtL D n Q):=by
      show _=_
      unfold drtL;rw [HN.out];exact vH HAll.out
     go_wp2_with fail
     go_loopg [11,12] N (fun gg s11 s12 wi => ∃ (i:Nat) (AO:Option Addr) (cO:Nat),i≤N∧gg=N-i∧s11=.slice AO (selTo f i).length cO∧s12=.int .i64 i∧Hid (wi.ownsRow (w1.heap.size+1) 3 1 (.slice AO (selTo f i).length cO) (selTo f i).length (aF (selTo f i)))∧Hid (Bf w1 w1.heap.size N f wi))
     case atStart=>exact ⟨0,none,0,Nat.zero_le _,rfl,rfl,rfl,World.ownsRow_nil _ _ _ _,HIf⟩
     case round =>
      obtain ⟨wi,rfl⟩:∃ wi:World,wi=wr:=⟨_,rfl⟩;obtain ⟨i,AO,cO,hi,rfl,rfl,rfl,HO,q⟩:=hrel;have hsl:=cF f i;obtain ⟨m,hm⟩:∃ m,(selTo f i).length=m:=⟨_,rfl⟩;have Hm:Hid ((selTo f i).length=m):=hm;rw [hm] at hsl HO ⊢
      by_cases d:i<N
      ·have hii:(i:Int)<(N:Int):=by omega
       have cg:=q.out.1.cell d;have hgl:=q.out.1.lt;cases hfi:f i with
       | false =>
        have E:Hid (selTo f (i+1)=selTo f i):=gF hfi;rw [hfi] at cg;clear hfi hm;go_wp2_with fail
        go_roundg (N-(i+1))
        case measure=>omega
        case rel=>exact ⟨i+1,AO,cO,by omega,rfl,by rw [E.out,Hm.out],by go_num,(by rw [E.out,Hm.out];exact HO.out:Hid _),q⟩
       | true =>
        have E:Hid (selTo f (i+1)=selTo f i ++ [(i:Int)]):=jN hfi;rw [hfi] at cg;clear hfi hm
        go_wp2_with (at_builtin;refine wpList_append_own _ rfl _ _ 26 rfl (w1.heap.size+1) 3 i0 (.int .i64 0) 1 8 Tryz.underlying26 hi0 hz0 hz1 hz2 rfl (by decide) _ _ _ rfl (HO.out.alloc _) ⟨wi.heap.size,0,none⟩ 1 1 [.int .i64 i] rfl rfl bw dF (by unfold maxLen;omega) (by omega) (by simp;omega) ?_)
        intro v' w6 v t _;obtain ⟨A6,c6,hv⟩:=fL v;subst hv;have HSl:Hid ((selTo f (i+1)).length=m+1):=by show _=_;rw [E.out,List.length_append,Hm.out];rfl
        have HO6:Hid (w6.ownsRow (w1.heap.size+1) 3 1 (.slice A6 (selTo f (i+1)).length c6) (selTo f (i+1)).length (aF (selTo f (i+1)))):=by
         show World.ownsRow ..
         rw [HSl.out,E.out,mapI_snoc];exact v
        have hne:some w1.heap.size≠(Value.slice AO m cO).ownBlock:=fun e=>by have:=(HO.out.lt _ e.symm).1;omega
        have HI6:Hid (Bf w1 w1.heap.size N f w6):=by
         refine ⟨?_,(q.out.2.alloc (by omega) _).grown t (by simp;omega) (fun i hi=>by have:=(HO.out.lt i hi).1;omega)⟩
         unfold fQ;rw [t.block w1.heap.size (by simp;omega) hne,Below.heap_alloc _ _ _ (by omega)]
         exact q.out.1
        clear v t hne;go_wp2_with fail
        go_roundg (N-(i+1))
        case measure=>omega
        case rel=>exact ⟨i+1,A6,c6,by omega,rfl,by rw [HSl.out],by go_num,HO6,HI6⟩
      ·have H:i=N:=by omega
       subst H;clear hm;go_wp2_with fail;go_ret;have h':wi.ownsRow (w1.heap.size+1) 3 1 (.slice AO (selTo f i).length cO) (selTo f i).length (aF (selTo f i)):=by rw [Hm.out];exact HO.out
       obtain ⟨A',c',e',hI⟩:=bP h';cases e';refine ⟨⟨AO,cO,?_,?_⟩,ae HB1.out q.out.2⟩
       ·rw [←V.out,Hm.out];rfl
       ·rw [←V.out];exact hI
    ·go_wp2_with fail
     go_loopg [8,9] N (fun gg s8 s9 wi => ∃ (i:Nat) (ag:Bool) (f':Nat→Bool),i≤N∧gg=N-i∧s8=.bool ag∧s9=.int .i64 i∧Hid (Bf w1 w1.heap.size N f' wi)∧Hid (vW D n N Q f')∧Hid (tr ys f' ag i)∧Hid (kI N f f' ag))
     case atStart=>exact ⟨0,false,f,Nat.zero_le _,rfl,rfl,rfl,HIf,KH,(fun _ j hj=>absurd hj (Nat.not_lt_zero _):tr ys f false 0),(⟨fun h=>(by cases h),fun _=>rfl⟩:kI N f f false)⟩
     case round =>
      obtain ⟨wi,rfl⟩:∃ wi:World,wi=wr:=⟨_,rfl⟩;obtain ⟨i,ag,f',hi,rfl,rfl,rfl,q,HDi,HCi,HPs⟩:=hrel
      by_cases d:i<N
      ·have hii:(i:Int)<(N:Int):=by omega
       have Y:=(HT.out i d).2.1;obtain ⟨R,P⟩:∃ R,(ys.getD i ep).p=R:=⟨_,rfl⟩;have HRe:Hid ((ys.getD i ep).p=R):=P;have HIz:Hid (∀ z∈R,∃ j:Nat,z=(j:Int)∧j<N):=by have:=HIn.out i d;rw [P] at this;exact this
       have HSt:Hid (∀ j:Nat,(j:Int)∈R→Bi D n i j):=fun j hj=>(jQ (HT.out i d)).2 (by rw [HRe.out];exact hj)
       rw [P] at Y;obtain ⟨r,hr⟩:∃ r,R.length=r:=⟨_,rfl⟩;have s:Hid (R.length=r):=hr;rw [hr] at Y;have hrI:(r:Int)≤12:=by omega
       have HK0:Hid (J0 R f' ag i 0):=fun _ _ z J=>by simp at J
       clear P hr;go_wp2_with fail
       go_loopg [8,10] r (fun gg s8 s10 wk => ∃ (u:Nat) (ag':Bool) (l:Nat→Bool),u≤r∧gg=r-u∧s8=.bool ag'∧s10=.int .i64 u∧Hid (Bf w1 w1.heap.size N l wk)∧Hid (vW D n N Q l)∧Hid (tr ys l ag' i)∧Hid (kI N f l ag')∧Hid (J0 R l ag' i u))
       case atStart=>exact ⟨0,ag,f',Nat.zero_le _,rfl,rfl,rfl,q,HDi,HCi,HPs,HK0⟩
       case round =>
        obtain ⟨wk,rfl⟩:∃ wk:World,wk=wr:=⟨_,rfl⟩;obtain ⟨u,ag',l,hu,rfl,rfl,rfl,g,K,HC2,L,HK2⟩:=hrel;have hBk:=g.out.2;obtain ⟨hcap,h0 | ⟨b,rfl,hbw,hcl⟩,hrw⟩:=HY.out.later hBk
        ·have:=M.out;rw [h0] at this;simp at this;omega
        have cj:=hcl i (by rw [M.out];exact d)
        have I:=hrw _ (ie (k:=i) (by rw [M.out];exact d))
        rw [M.out] at hcap;have hcapI:(N:Int)≤(c1:Int):=by omega
        rw [HRe.out] at cj I;rw [s.out] at cj;generalize (ys.getD i ep).A=Aj at cj I;generalize (ys.getD i ep).c=cjj at cj I;have HTj:Hid (aR wk Aj cjj R):=I;have cg:=g.out.1.cell d;have hgl:=g.out.1.lt;have HNx:Hid ((u=r∨l i=true)→tr ys l ag' (i+1)):=fun hor ha j hj hf=>by
         by_cases e:j=i
         ·subst e
          rcases hor with h | h
          ·have h2:=HK2.out ha hf
           rw [h,List.take_of_length_le (by rw [s.out];exact Nat.le_refl _)] at h2
           rw [HRe.out];exact h2
          ·rw [h] at hf;cases hf
         ·exact HC2.out ha j (by omega) hf
        clear hcl hrw I hBk
        by_cases T:u<r
        ·have hui:(u:Int)<(r:Int):=by omega
         cases hfi:l i with
         | true =>
          have KG:Hid (tr ys l ag' (i+1)):=HNx.out (Or.inr hfi);rw [hfi] at cg;clear hfi;go_wp2_with fail
          go_roundg (N-(i+1))
          case measure=>omega
          case rel=>exact ⟨i+1,ag',l,by omega,rfl,rfl,by go_num,g,K,KG,L⟩
         | false =>
          have HFi:Hid (l i=false):=hfi;rw [hfi] at cg;obtain ⟨hcR,-,hR0 | ⟨br,cs,fr,rfl,hbr,hcr⟩⟩:=HTj.out
          ·have:=s.out;rw [hR0] at this;simp at this;omega
          have cu:=hcr u (by rw [s.out];exact T)
          rw [s.out] at hcR;have hcRi:(r:Int)≤(cjj:Int):=by omega
          have hbrl:br<wk.heap.size:=(Array.getElem?_eq_some_iff.1 hbr).1;have o:R.getD u 0∈R:=fX (by rw [s.out];exact T)
          obtain ⟨z,J,U⟩:=HIz.out _ o;rw [J] at cu o;have HTk:Hid (R.take (u+1)=R.take u ++ [(z:Int)]):=by
           show _=_
           rw [←J,List.take_succ_eq_append_getElem (by rw [s.out];exact T),List.getD_eq_getElem?_getD,List.getElem?_eq_getElem (by rw [s.out];exact T)]
           rfl
          have HSz:Hid (Bi D n i z):=HSt.out z o;have hzI:(z:Int)<(N:Int):=by omega
          have cz:=g.out.1.cell U;have fz:=g.out.1.frozen i;clear hcr hbr J o hfi;cases hfz:l z with
          | true =>
           have HD3:Hid (vW D n N Q (ic l i)):=K.out.put U hfz HSz.out;have HP3:Hid (kI N f (ic l i) true):=va L.out d HFi.out;have HI3:Hid (Bf w1 w1.heap.size N (ic l i) (wk.setCell ⟨w1.heap.size,i,none⟩ (.bool true))):=g.out.put;rw [hfz] at cz;clear hfz;go_wp2_with fail
           go_roundg (r-(u+1))
           case measure=>omega
           case rel=>exact ⟨u+1,true,ic l i,by omega,rfl,rfl,by go_num,HI3,HD3,(fun h=>(by cases h):tr ys (ic l i) true i),HP3,(fun h=>(by cases h):J0 R (ic l i) true i (u+1))⟩
          | false =>
           have HK3:Hid (J0 R l ag' i (u+1)):=fun ha hf x hx=>by
            rw [HTk.out,List.mem_append,List.mem_singleton] at hx
            rcases hx with hx | hx
            ·exact HK2.out ha hf x hx
            ·rw [hx,Int.toNat_natCast];exact hfz
           rw [hfz] at cz;clear hfz;go_wp2_with fail
           go_roundg (r-(u+1))
           case measure=>omega
           case rel=>exact ⟨u+1,ag',l,by omega,rfl,rfl,by go_num,g,K,HC2,L,HK3⟩
        ·have hue:u=r:=by omega
         subst hue;have KG:Hid (tr ys l ag' (i+1)):=HNx.out (Or.inl rfl);go_wp2_with fail
         go_roundg (N-(i+1))
         case measure=>omega
         case rel=>exact ⟨i+1,ag',l,by omega,rfl,rfl,by go_num,g,K,KG,L⟩
      ·have H:i=N:=by omega
       subst H;have HMu:Hid (DK f' ag i<DK f true i):=by
        show _<_
        unfold DK;cases ag with
        | true=>have:=HPs.out.1 rfl;simp;omega
        | false=>rw [HPs.out.2 rfl];simp
       go_wp2_with fail
       go_roundg (DK f' ag i)
       case measure=>exact HMu.out
       case rel=>exact ⟨ag,f',rfl,rfl,q,HDi,HCi⟩
end Go.Proofs.YtompdcaikmekkaaGreatDoor
