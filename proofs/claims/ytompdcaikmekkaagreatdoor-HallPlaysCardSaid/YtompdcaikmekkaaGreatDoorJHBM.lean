/- What next of a queue o -/
import Derived.Test.YtompdcaikmekkaaGreatDoorJHBL
namespace Go.Proofs.YtompdcaikmekkaaGreatDoor
open ChangeShapes WideShapes ChangeAt RowKit
set_option maxRecDepth 99999
set_option maxHeartbeats 0
def ts (q gM gR:Nat) (w w':World):Prop:=Kept w.heap.size (fun k=>k=q∨k=gM∨k=gR) w w'
theorem ts.refl (q gM gR:Nat) (w:World):ts q gM gR w w:=Kept.refl _ _ _
theorem BP {q gM gR:Nat} {w w1 w2:World} (h:ts q gM gR w w1) (k:Bl w1 w2):ts q gM gR w w2:=⟨k.os.trans h.os,k.tape.trans h.tape,k.output.trans h.output,zV h.size k.size,fun i a b=>(k.block i (zW a h.size)).trans (h.block i a b)⟩
theorem sm {q gM gR b j:Nat} {w w1:World} {v:Value} (h:ts q gM gR w w1) (c:b=q∨b=gM∨b=gR∨w.heap.size≤b):ts q gM gR w (w1.setCell ⟨b,j,none⟩ v):=⟨h.os,h.tape,h.output,by simp only [World.size_setCell];exact h.size,fun i d a=>by
 rw [av _ _ _ _ _ (fun e=>by
  rcases c with h1 | h1 | h1 | h1
  ·exact a (Or.inl (e.trans h1))
  ·exact a (Or.inr (Or.inl (e.trans h1)))
  ·exact a (Or.inr (Or.inr (e.trans h1)))
  omega)]
 exact h.block i d a⟩
theorem BQ {q gM gR b:Nat} {w w1 w2:World} (h:ts q gM gR w w1) (a:w1.grownBy w2 (some b)) (g:b=gR∨w.heap.size≤b):ts q gM gR w w2:=⟨a.os.trans h.os,a.tape.trans h.tape,a.output.trans h.output,zV h.size a.size,fun i c d=>by
 rw [a.block i (zW c h.size) (fun e=>by
  have f:i=b:=by simpa using e
  rcases g with h1 | h1
  ·exact d (Or.inr (Or.inr (f.trans h1)))
  omega)]
 exact h.block i c d⟩
theorem CK (B q gM gU N k:Nat) (Nn:List (List Int)) (M:Nat→Int) (UV:Nat→Value) (gR:Nat) (AR:Option Addr) (H:Nat) (RL:List Int) (w:World) (hN3:N≤3000) (z:Nn.length=N) (hN:ni Nn) (hc:∀ i:Nat,i<Nn.length→cycB Nn i=false) (hr:∀ j,j<Nn.length→(Nn.getD j []).Pairwise (· < ·)) (hl:∀ j,j<Nn.length→(Nn.getD j []).length≤12) (hk:k<N) (hB:B≤w.heap.size)
  (S:QS w B q gM gU N M UV (fun j=>bC Nn j N) gR AR H RL) (hM:∀ j,j<N→M j=(fi Nn (aC Nn k) j:Int)) (T:rV Nn (aC Nn k) RL) :
  Calls Tryz.prog 76 #[.pointer (some ⟨q,0,none⟩)] w fun e w' => ∃ m:Nat,e=.returned (.int .i64 m)∧m<N∧aC Nn (k+1)=aC Nn k ++ [(m:Int)]∧∃ M' gR' AR' a RL',QS w' B q gM gU N M' UV (fun j=>bC Nn j N) gR' AR' a RL'∧(∀ j,j<N→M' j=(fi Nn (aC Nn (k+1)) j:Int))∧rV Nn (aC Nn (k+1)) RL'∧(gR'=gR∨w.heap.size≤gR')∧ts q gM gR w w':=by
 obtain ⟨m,R0,rfl,hmN,hmo,hon,hRI⟩:=pF hN hc (k:=k) (by omega) T
 have E:=sR (Nn:=Nn) T.1 fun x hx=>by obtain ⟨j,h1,I,-⟩:=(T.2 x).1 hx;exact ⟨j,h1,I⟩
 rw [z] at E hmN;simp only [List.length_cons] at E;obtain ⟨p0,p1,p2,pf⟩:=S.cells;obtain ⟨-,-,o,rfl,⟨cur,hcur,hcs⟩,C⟩:=id S.ready;have c0:=C 0 (by simp)
 simp only [List.getD_cons_zero,Nat.add_zero] at c0;have hcR:=S.ready.1;have hcR2:=S.ready.2.1;simp only [List.length_cons] at hcR p2;have hql:=S.ql;have hgl:=S.ready.lt;have hV:=S.ready.tail;have v:Hid (QS (w.setCell ⟨q,2,none⟩ (.slice (if H=1 then some ⟨gR,o,none⟩ else some ⟨gR,o+1,none⟩) R0.length (H-1))) B q gM gU N M UV (fun j=>bC Nn j N) gR (if H=1 then some ⟨gR,o,none⟩ else some ⟨gR,o+1,none⟩) (H-1) R0):=S.setR (zS) (dg _ _) hV (Or.inl rfl) hB
 have HM:Hid (∀ j,j<N→M j=(ia Nn (aC Nn k) m 0 j:Int)):=fun j hj=>by
  rw [hM j hj];unfold ia
  simp
 have HRI:=aa hRI;have HW:=aa hB;have s:Hid (ts q gM gR w (w.setCell ⟨q,2,none⟩ (.slice (if H=1 then some ⟨gR,o,none⟩ else some ⟨gR,o+1,none⟩) R0.length (H-1)))):=sm (ts.refl _ _ _ _) (Or.inl rfl)
 obtain ⟨rl,hrl⟩:=aA R0.length;have HRl:=aa hrl;rw [hrl] at E p2 hcR v s;have hrI:(rl:Int)+1≤3000:=by omega
 have hcRI:(rl:Int)+1≤(H:Int):=by omega
 have hcR1:1≤H:=by omega
 clear hV C hcur hcs S hM T hRI hrl
 go_enter Tryz.func76,Tryz.ntmps76
 go_upto_region 2 with fail
 go_cut [3] from 8 (fun s3 wx=>s3=.int .i64 m∧∃ A1 c1,QS wx B q gM gU N M UV (fun j=>bC Nn j N) gR A1 c1 R0∧ts q gM gR w wx)
 case first =>
  by_cases hc1:H=1
  ·rw [if_pos hc1] at v s
   subst hc1;have hr0:rl=0:=by omega
   subst hr0;go_wp2_with fail;go_meet;exact ⟨rfl,_,_,v.out,s.out⟩
  rw [if_neg hc1] at v s;go_wp2_with fail;go_meet;exact ⟨rfl,_,_,v.out,s.out⟩
 case rest =>
 obtain ⟨rfl,A1,c1,f,hF1⟩:=hcut;obtain ⟨w1,rfl⟩:∃ w1:World,w1=wc:=⟨_,rfl⟩;obtain ⟨t,ht⟩:=aA ((bC Nn m N).length);have HT:=aa ht;have htN:t≤N:=by rw [←ht];exact tg _ _ _
 obtain ⟨Au,cu,hUV⟩:∃ A c,UV m=.slice A (bC Nn m N).length c:=by
  obtain ⟨A',c',e,-⟩:=bP (f.own m hmN);exact ⟨A',c',e⟩
 have HUs:Hid (∀ w' M' gR' AR' a RL',QS w' B q gM gU N M' UV (fun j=>bC Nn j N) gR' AR' a RL'→w'.cell? ⟨gU,m,none⟩=some (.slice Au t cu)∧aR w' Au cu (bC Nn m N)):=fun w' M' gR' AR' a RL' h=>by
  have I:=h.users hmN hUV;rw [ht] at I;exact I
 have HStp:Hid (∀ i,i<t→∃ u:Nat,(bC Nn m N).getD i 0=(u:Int)∧u<N∧ia Nn (aC Nn k) m i u=fi Nn (aC Nn k) u∧1≤fi Nn (aC Nn k) u∧fi Nn (aC Nn k) u≤12∧ia Nn (aC Nn k) m (i+1) u+1=fi Nn (aC Nn k) u∧(∀ j,j≠u→ia Nn (aC Nn k) m (i+1) j=ia Nn (aC Nn k) m i j)∧∀ R,kK Nn (aC Nn k) m i R→(u:Int)∉R∧(fi Nn (aC Nn k) u=1→kK Nn (aC Nn k) m (i+1) (sq R u))∧(fi Nn (aC Nn k) u≠1→kK Nn (aC Nn k) m (i+1) R)):=fun i hi=>by
  obtain ⟨u,e1,e2,e3,e4,e5,e6,e7⟩:=Gv hr hmo (i:=i) (by rw [z,ht];exact hi)
  rw [z] at e1 e2;exact ⟨u,e1,e2,e3,e4,zV (I7 _ _ _) (hl u (by rw [z];exact e2)),e5,e6,e7⟩
 have HRn:Hid (∀ i R,kK Nn (aC Nn k) m i R→R.length≤3000∧R.Pairwise (· < ·)):=fun i R h=>by
  have I:=sR (Nn:=Nn) h.1 fun x hx=>by obtain ⟨j,h1,I,-⟩:=(h.2 x).1 hx;exact ⟨j,h1,I⟩
  exact ⟨by omega,h.1⟩
 have W:Hid ((∀ j,j<N→ia Nn (aC Nn k) m t j=fi Nn (aC Nn (k+1)) j)∧∀ R,kK Nn (aC Nn k) m t R→rV Nn (aC Nn (k+1)) R):=by
  obtain ⟨h1,I⟩:=IB hr (k:=k) hmo;rw [z,ht] at h1 I;rw [hon];exact ⟨h1,I⟩
 have HOn:=aa hon;obtain ⟨-,k1,-,-⟩:=f.cells;have hq1:=f.ql;have hg1:=f.hU.lt;obtain ⟨kU,-⟩:=HUs.out w1 _ _ _ _ _ f;have HS0:Hid (∃ M' gR' AR' a RL',QS w1 B q gM gU N M' UV (fun j=>bC Nn j N) gR' AR' a RL'∧(∀ j,j<N→M' j=(ia Nn (aC Nn k) m 0 j:Int))∧kK Nn (aC Nn k) m 0 RL'∧(gR'=gR∨w.heap.size≤gR')∧ts q gM gR w w1):=⟨M,gR,A1,c1,R0,f,HM.out,HRI.out,Or.inl rfl,hF1⟩
 have hmI:(m:Int)<(N:Int):=by omega
 have hNI:(N:Int)≤3000:=by omega
 have htI:(t:Int)≤3000:=by omega
 clear f hF1 ht hUV hr hl hN hc hmo hon p0 p1 p2 pf c0;go_wp2_with fail;clear kU k1
 go_loopg [30] t (fun gg s30 wr => ∃ (i:Nat),i≤t∧gg=t-i∧s30=.int .i64 i∧Hid (∃ M' gR' AR' a RL',QS wr B q gM gU N M' UV (fun j=>bC Nn j N) gR' AR' a RL'∧(∀ j,j<N→M' j=(ia Nn (aC Nn k) m i j:Int))∧kK Nn (aC Nn k) m i RL'∧(gR'=gR∨w.heap.size≤gR')∧ts q gM gR w wr))
 case atStart=>exact ⟨0,zU,rfl,rfl,HS0⟩
 case round =>
  obtain ⟨i,hi,rfl,rfl,HSt⟩:=hrel
  by_cases hlt:i<t
  ·have hii:(i:Int)<(t:Int):=by omega
   obtain ⟨M',gR',AR',a,RL',d,p,r,D,n⟩:=HSt.out;obtain ⟨u,e1,e2,e3,e4,e12,e5,e6,e7⟩:=HStp.out i hlt;obtain ⟨hnR,hr1,hr2⟩:=e7 RL' r;obtain ⟨V,hri⟩:=HRn.out i RL' r;obtain ⟨-,hIu⟩:=HUs.out wr _ _ _ _ _ d;obtain ⟨hcS,-,hS0 | ⟨bs,cs,fr,rfl,hbS,hcl⟩⟩:=hIu
   ·have:=HT.out;rw [hS0] at this;simp at this;omega
   have cx:=hcl i (by rw [HT.out];exact hlt)
   have hbs:bs<wr.heap.size:=(zY hbS).1;rw [HT.out] at hcS;rw [e1] at cx;have hcSI:(t:Int)≤(cu:Int):=by omega
   have huI:(u:Int)<(N:Int):=by omega
   obtain ⟨q0,-,q2,qf⟩:=d.cells;have hqr:=d.ql;have cm:wr.cell? ⟨gM,u,none⟩=some (.int .i64 (M' u)):=d.hM.cell e2;have fm:=d.hM.frozen u;have hgm:=d.hM.lt;rw [p u e2,e3] at cm;have hlenW:w.heap.size≤wr.heap.size:=n.size;obtain ⟨mI,F⟩:∃ mI:Int,((fi Nn (aC Nn k) u:Nat):Int)=mI:=⟨_,rfl⟩;rw [F] at cm;have hm1:1≤mI:=by omega
   have hm12:mI≤12:=by omega
   obtain ⟨wA,G⟩:=aA (wr.setCell ⟨gM,u,none⟩ (.int .i64 (mI-1)));have b:QS wA B q gM gU N (fun j=>if j=u then mI-1 else M' j) UV (fun j=>bC Nn j N) gR' AR' a RL':=by rw [←G];exact d.setM u (mI-1)
   have Q:∀ j,j<N→(fun j=>if j=u then mI-1 else M' j) j=(ia Nn (aC Nn k) m (i+1) j:Int):=fun j hj=>by
    by_cases e:j=u
    ·show (if j=u then mI-1 else M' j)=_
     rw [if_pos e,e]
     omega
    show (if j=u then mI-1 else M' j)=_
    rw [if_neg e,p j hj,e6 j e]
   have O:ts q gM gR w wA:=by rw [←G];exact sm n (Or.inr (Or.inl rfl))
   obtain ⟨a0,-,a2,af⟩:=b.cells;have hqA:=b.ql;have cmA:wA.cell? ⟨gM,u,none⟩=some (.int .i64 (mI-1)):=by
    have h:=b.hM.cell e2
    simpa using h
   have hgA:=b.hM.lt;have hgRl:=b.ready.lt;have K:=aa b;have HMA:=aa Q;have HFA:=aa O;have hszA:wA.heap.size=wr.heap.size:=by rw [←G];simp
   obtain ⟨rl2,l⟩:=aA RL'.length;have L:=aa l
   by_cases Y:mI=1
   ·have HRn1:=aa (hr1 (by omega))
    have U:=BO AR' a gR' RL' (u:Int) wA V b.ready hri;have Z:Hid (∀ w5 vb,Bl wA w5→w5.heap[vb]?=some (.cells #[.int .i64 (u:Int)] 3 (0,0))→vb≠gR'→Calls Tryz.prog 114 #[.slice AR' RL'.length a,.int .i64 (RL'.countP (· < (u:Int)):Nat),.slice (some ⟨vb,0,none⟩) 1 1] w5 fun e w'=>Bh w5 gR' (RL'.countP (· < (u:Int))) RL' u e w'):=fun w5 vb h5 hv hne=>ET AR' a gR' (RL'.countP (· < (u:Int))) vb RL' u w5 V List.countP_le_length (b.ready.later h5) hv hne
    rw [l] at U Z a2 q2;obtain ⟨cp,hcp⟩:=aA (RL'.countP (· < (u:Int)));have HCp:Hid (RL'.take cp ++ (u:Int) :: RL'.drop cp=sq RL' u):=by show _=_;unfold sq;rw [hcp]
    rw [hcp] at U Z;subst Y;have hz0:(1:Int)-1=0:=rfl;rw [hz0] at G cmA;clear d p r n e1 e3 e4 e12 e5 e6 e7 hnR hr1 hr2 hcl hbS b Q O hri V F l hcp hz0;go_wp2_with fail;refine U.mono ?_;rintro e wB ⟨⟨bb,rfl⟩,g⟩;have HBB:=aa g;obtain ⟨b0,-,b2,bf⟩:=(K.out.later g).cells;rw [L.out] at b2;have hqB:=(K.out.later g).ql;obtain ⟨wC,hwC⟩:=aA (wB.alloc (.cells #[.int .i64 (u:Int)] 3));have y:Bl wB wC:=by rw [←hwC];go_grown
    have hvC:wC.heap[wB.heap.size]?=some (.cells #[.int .i64 (u:Int)] 3 (0,0)):=by rw [←hwC];exact heap_alloc_new ..
    have X:=Z.out wC wB.heap.size (ae g y) hvC (by have:=g.size;omega)
    have J:=aa (ae g y);have d2:=aD y hqB b2;have hqC:q<wC.heap.size:=zW hqB y.size;clear g U G cm cmA a0 a2 q0 q2 hvC y;go_wp2_with fail;refine X.mono ?_;rintro e w6 ⟨g6,A6,c6,rfl,hV6,hg6,P⟩;obtain ⟨z2,zf,hq6⟩:=K.out.qin J.out P;rw [L.out] at z2;have hsC:=J.out.size;have hlen6:(RL'.take cp ++ (u:Int) :: RL'.drop cp).length=rl2+1:=by
     rw [HCp.out];unfold sq;rw [k7 List.countP_le_length,L.out]
    have KG:Hid (∃ M' gR'' AR' a RL',QS (w6.setCell ⟨q,2,none⟩ (.slice A6 (rl2+1) c6)) B q gM gU N M' UV (fun j=>bC Nn j N) gR'' AR' a RL'∧(∀ j,j<N→M' j=(ia Nn (aC Nn k) m (i+1) j:Int))∧kK Nn (aC Nn k) m (i+1) RL'∧(gR''=gR∨w.heap.size≤gR'')∧ts q gM gR w (w6.setCell ⟨q,2,none⟩ (.slice A6 (rl2+1) c6))):=by
     have hQ6:=K.out.setR J.out P hV6 (hg6.imp id fun h=>by omega) (by have:=HW.out;omega)
     rw [hlen6,HCp.out] at hQ6;refine ⟨_,g6,A6,c6,_,hQ6,HMA.out,HRn1.out,?_,sm (BQ (BP HFA.out J.out) P (D.imp id fun h=>h)) (Or.inl rfl)⟩
     rcases hg6 with h | h
     ·rw [h];exact D
     exact Or.inr (by omega)
    rw [L.out];clear X hwC d2 hV6 hg6 P b0 b2 bf;go_wp2_with fail
    go_roundg (t-(i+1))
    case measure=>omega
    case rel=>exact ⟨i+1,by omega,rfl,by go_num,KG⟩
   have hb1:((mI-1) == 0)=false:=by
    rw [beq_eq_false_iff_ne]
    omega
   have KG:Hid (∃ M' gR'' AR' a RL',QS wA B q gM gU N M' UV (fun j=>bC Nn j N) gR'' AR' a RL'∧(∀ j,j<N→M' j=(ia Nn (aC Nn k) m (i+1) j:Int))∧kK Nn (aC Nn k) m (i+1) RL'∧(gR''=gR∨w.heap.size≤gR'')∧ts q gM gR w wA):=⟨_,gR',AR',a,RL',b,Q,hr2 (by omega),D,O⟩
   clear d p r n e1 e3 e4 e12 e5 e6 e7 hnR hr1 hr2 hcl hbS b Q O hri V F l Y;go_wp2_with fail
   go_roundg (t-(i+1))
   case measure=>omega
   case rel=>exact ⟨i+1,by omega,rfl,by go_num,KG⟩
  have hie:i=t:=by omega
  subst hie;go_wp2_with fail;go_ret;obtain ⟨M',gR',AR',a,RL',d,p,r,D,n⟩:=HSt.out;exact ⟨m,rfl,by omega,HOn.out,M',gR',AR',a,RL',d,fun j hj=>by rw [p j hj,W.out.1 j hj],W.out.2 _ r,D,n⟩
def rS (w w0:World) (q gM gU N k:Nat) (Nn:List (List Int)) (v:Value):Prop := ∃ M UV gR AR cR RL,QS w w0.heap.size q gM gU N M UV (fun j=>bC Nn j N) gR AR cR RL∧(∀ j,j<N→M j=(fi Nn (aC Nn k) j:Int))∧rV Nn (aC Nn k) RL∧w.ownsRow w0.heap.size 3 1 v k (aF (aC Nn k))∧(∀ b,v.ownBlock=some b→b≠gM∧b≠gR∧∀ j,j<N→(UV j).ownBlock≠some b)∧Bl w0 w
section
variable {w w0 w1:World} {q gM gU N k:Nat} {Nn:List (List Int)} {v:Value}
theorem rS.first (h:GK w q gM gU N N Nn w0) (f:Nn.length=N) (o:ni Nn) (v:∀ i:Nat,i<Nn.length→cycB Nn i=false) (p:0<N) (r:N≤3000):rS (w.alloc (.cells (madeCells #[.int .i64 0] N) 3)) w0 q gM gU N 0 Nn (.slice (some ⟨w.heap.size,0,none⟩) 0 N):=by
 obtain ⟨M,UV,R,s,hM,l⟩:=h;have c:rV Nn [] (selTo (fun j=>(Nn.getD j []).isEmpty) N):=CO (by rw [f])
 obtain ⟨m,R',e,-⟩:=pF o v (k:=0) (by omega) c
 obtain ⟨gR,n,d⟩:=QS.of s (by rw [e];simp)
 have a:Bl w (w.alloc (.cells (madeCells #[.int .i64 0] N) 3)):=by go_grown
 refine ⟨M,UV,gR,_,n,_,d.later a,fun j g=>by rw [hM j g];show _=((fi Nn [] j:Nat):Int);rw [Ci],c,?_,fun b t=>?_,ae l a⟩
 ·exact World.ownsRow_made w _ N l.size (by unfold maxLen;omega) (by simp [madeCells])
 have u:w.heap.size=b:=by simpa [Value.ownBlock] using t
 have x:=d.hM.lt;have y:=d.ready.lt;refine ⟨by omega,by omega,fun j g e=>?_⟩
 have:=(bO (d.own j g) e).2.1
 omega
theorem rS.ready (h:rS w w0 q gM gU N k Nn v) (f:Nn.length=N) (o:ni Nn) (p:∀ i:Nat,i<Nn.length→cycB Nn i=false):q<w.heap.size∧(k<N→∃ A l c,w.cell? ⟨q,2,none⟩=some (.slice A (l+1) c)∧l≤N)∧(k=N→∃ A c,w.cell? ⟨q,2,none⟩=some (.slice A 0 c)):=by
 obtain ⟨M,UV,gR,AR,n,RL,g,B,a,-⟩:=h;refine ⟨g.ql,fun y=>?_,fun u=>?_⟩
 ·obtain ⟨m,R',e,-⟩:=pF o p (k:=k) (by omega) a
  have b:=sR (Nn:=Nn) a.1 fun x z=>by obtain ⟨j,r,s,-⟩:=(a.2 x).1 z;exact ⟨j,r,s⟩
  have d:=g.cells.2.2.1;rw [e,List.length_cons] at d;rw [e,List.length_cons] at b;exact ⟨AR,R'.length,n,d,by omega⟩
 have t:RL=[]:=Ie o p (by rw [f,←u];exact a)
 have d:=g.cells.2.2.1;rw [t] at d;exact ⟨AR,n,d⟩
theorem rS.step (h:rS w w0 q gM gU N k Nn v) (H:Nn.length=N) (U:ni Nn) (B:∀ i:Nat,i<Nn.length→cycB Nn i=false) (Z:∀ j,j<Nn.length→(Nn.getD j []).Pairwise (· < ·)) (X:∀ j,j<Nn.length→(Nn.getD j []).length≤12) (G:N≤3000) (W:k<N) :
  Calls Tryz.prog 76 #[.pointer (some ⟨q,0,none⟩)] w fun e w4 => ∃ m:Nat,e=.returned (.int .i64 m)∧m<N∧w4.ownsRow w0.heap.size 3 1 v k (aF (aC Nn k))∧w0.heap.size≤w4.heap.size∧∀ (w5 w6:World) (v':Value),Bl w4 w5→w6.ownsRow w0.heap.size 3 1 v' (k+1) (aF (aC Nn k) ++ [.int .i64 (m:Int)])→w5.grownBy w6 v.ownBlock→(v'.ownBlock=v.ownBlock∨v'.ownBlock=some w5.heap.size)→rS w6 w0 q gM gU N (k+1) Nn v':=by
 obtain ⟨M,UV,gR,AR,S,RL,s,hM,J,A,R,o⟩:=h;refine (CK w0.heap.size q gM gU N k Nn M UV gR AR S RL w G H U B Z X W o.size s hM J).mono ?_;rintro e w4 ⟨m,rfl,Y,Q,M',gR',AR',C,RL',f,F,z,O,p⟩;have l:∀ b,v.ownBlock=some b→b≠q∧b≠gU∧b<w.heap.size:=fun b a=>by
  obtain ⟨-,x,t,B⟩:=bO A a;exact ⟨(s.off B).1,(s.off B).2,x⟩
 have I:w4.ownsRow w0.heap.size 3 1 v k (aF (aC Nn k)):=by
  refine ⟨A.1,?_⟩
  rcases A.2 with h0 | ⟨g,cap,t,rfl,x,D,h4⟩
  ·exact Or.inl h0
  refine Or.inr ⟨g,cap,t,rfl,x,(p.block g (zY D).1 ?_).trans D,h4⟩;have n:=R g rfl;have E:=l g rfl;rintro (e | e | e)
  ·exact E.1 e
  ·exact n.1 e
  exact n.2.1 e
 have y:Bl w0 w4:=⟨p.os.trans o.os,p.tape.trans o.tape,p.output.trans o.output,zV o.size p.size,fun b a=>(p.block b (zW a o.size) (by
  have u:=s.lq;have x:=s.lM;have D:=s.lR;rintro (e | e | e) <;> omega)).trans (o.block b a)⟩
 refine ⟨m,rfl,Y,I,y.size,fun w5 w6 v' n E r L=>?_⟩
 have d:∀ b,v.ownBlock=some b→b≠gM∧b≠gR'∧∀ j,j<N→(UV j).ownBlock≠some b:=fun b a=>by
  have u:=R b a;refine ⟨u.1,?_,u.2.2⟩
  rcases O with e | e
  ·rw [e];exact u.2.1
  have:=(l b a).2.2;omega
 have K:=(f.later n).keep r (fun e=>(l q e).1 rfl) (fun e=>(d gM e).1 rfl) (fun e=>(l gU e).2.1 rfl) (fun e=>(d gR' e).2.1 rfl) (fun j P b a e=>(d b e).2.2 j P a)
 refine ⟨M',UV,gR',AR',C,RL',K,F,z,?_,fun b a=>?_,?_⟩
 ·rw [Q,mapI_snoc];exact E
 ·rcases L with e | e
  ·exact d b (e.symm.trans a)
  have V:w5.heap.size=b:=by rw [e] at a;simpa using a
  have u:=(f.later n).hM.lt;have x:=(f.later n).ready.lt;refine ⟨by omega,by omega,fun j P T=>?_⟩
  have:=(bO ((f.later n).own j P) T).2.1
  omega
 have c:=ae y n;refine ⟨r.os.trans c.os,r.tape.trans c.tape,r.output.trans c.output,zV c.size r.size,fun b a=>(r.block b (zW a c.size) (fun e=>by have:=(bO A e.symm).1;omega)).trans (c.block b a)⟩
end
theorem mX (W g n:Nat) (D:Nat→Dm) (X:Nat→AL) (w:World) (r:dH D n) (o:(am D n).2.2=0) (hA:cI w W g n D X) :
  Calls Tryz.prog 38 #[.pointer (some ⟨W,0,none⟩)] w fun e w'=>(∃ A' u,e=.returned (.tuple #[.slice A' (prodN D n) u,.nilIface])∧aR w' A' u (aC (rowsL D n) (prodN D n)))∧Bl w w':=by
 obtain ⟨i0,L,T,U,V⟩:=info_parts Tryz.infoInt;obtain ⟨hn1,hn4,Q,hd⟩:=au o;have p:=Fi W g n D X w r o hA;have E:Hid (∀ w',Bl w w'→Calls Tryz.prog 75 #[.pointer (some ⟨W,0,none⟩)] w' fun e w''=>e=.returned (.int .i64 (prodN D n:Nat))∧w''=w'):=fun w' hB=>m7 W g n D X w' (hA.later hB)
 have H:0<prodN D n:=mx fun i hi=>(hd i hi).1
 have f:=aa (ff r o);have d:=aa (fA r o);have F:=aa (De r o);have B:Hid (∀ j,j<(rowsL D n).length→((rowsL D n).getD j []).length≤12):=fun j hj=>(fB r o (by rw [bL] at hj;exact hj)).2.1
 have b:Hid ((rowsL D n).length=prodN D n):=bL;have t:Hid ((aC (rowsL D n) (prodN D n)).length=prodN D n):=by
  show _=_
  have h:=eb (ff r o) (fA r o) (prodN D n) (by rw [bL];exact zT)
  exact h
 obtain ⟨Nn,I⟩:=aA (rowsL D n);rw [I] at p f d F B b t ⊢;obtain ⟨N,hN⟩:=aA (prodN D n);rw [hN] at p E b t Q H ⊢;have hNI:(N:Int)≤3000:=by omega
 have hmk:∀ w:World,(Instr.makeSlice 26 (.int .i64 0) (.int .i64 (N:Int))).run Tryz.prog w=.ok (.slice (some ⟨w.heap.size,0,none⟩) 0 N) (w.alloc (.cells (madeCells #[.int .i64 0] N) 3)):=fun w=>by
  have hr:=run_make (P:=Tryz.prog) w 26 3 i0 _ Tryz.underlying26 L T .i64 .i64 0 N (by omega) (by omega) (by rw [V];omega) (by omega)
  simp only [Int.toNat_natCast,U,Nat.mul_one] at hr;exact hr
 have C:=aa Q;clear hA o r hd I hN
 go_enter Tryz.func38,Tryz.ntmps38
 go_wp2_with fail;refine p.mono ?_;rintro e w1 ⟨q,gM,gU,rfl,v⟩;have KG:=aa v;have G:Bl w w1:=by obtain ⟨-,-,-,-,-,h⟩:=v;exact h
 have R:=E.out w1 G;clear p v;go_wp2_with fail;refine R.mono ?_;rintro e w2 ⟨rfl,rfl⟩;have HS0:=aa (rS.first KG.out b.out f.out d.out H C.out);clear R G;go_wp2_with fail;clear hmk
 go_loopg [6] N (fun gg s6 wr => ∃ (k:Nat) (AO:Option Addr) (z:Nat),k≤N∧gg=N-k∧s6=.slice AO k z∧Hid (rS wr w q gM gU N k Nn (.slice AO k z)))
 case atStart=>exact ⟨0,_,_,zU,rfl,rfl,HS0⟩
 case round =>
  obtain ⟨k,AO,z,hk,rfl,rfl,HS⟩:=hrel;obtain ⟨hql,x,y⟩:=HS.out.ready b.out f.out d.out
  by_cases O:k<N
  ·obtain ⟨Aq,l,cq,k2,hlN⟩:=x O
   have hlI:(l:Int)≤3000:=by omega
   have S:=HS.out.step b.out f.out d.out F.out B.out C.out O;clear x y;go_wp2_with fail;refine S.mono ?_;rintro e w4 ⟨m,rfl,hmN,J,hs4,s⟩;have Z:=aa J;have A:=aa s;clear S J s k2
   go_wp2_with (at_builtin;refine wpList_append_own_at _ rfl _ _ 26 rfl w.heap.size 3 i0 (.int .i64 0) 1 8 Tryz.underlying26 L T U V rfl (by decide) _ _ _ rfl (Z.out.alloc _) ⟨w4.heap.size,0,none⟩ 1 1 [.int .i64 m] rfl rfl bw dF (by unfold maxLen;omega) (by omega) (by simp;omega) ?_)
   intro v' w6 a c _ K;obtain ⟨A',u,rfl⟩:∃ A' u,v'=.slice A' (k+1) u:=by
    rcases a.2 with ⟨-,h⟩ | ⟨g',u,cur,h,-⟩
    ·omega
    exact ⟨_,_,h⟩
   have Y:=aa (A.out _ _ _ (by go_grown) a c (K.imp id fun h=>by rw [h];simp))
   clear a c K;go_wp2_with fail
   go_roundg (N-(k+1))
   case measure=>omega
   case rel=>exact ⟨k+1,_,_,by omega,rfl,rfl,Y⟩
  have M:k=N:=by omega
  obtain ⟨Aq,cq,k2⟩:=y M;subst M;have HF:Hid (aR wr AO z (aC Nn k)∧Bl w wr):=by
   obtain ⟨-,-,-,-,-,-,-,-,-,hO,-,hB⟩:=HS.out;refine ⟨?_,hB⟩;have hO3:wr.ownsRow w.heap.size 3 1 (.slice AO k z) (aC Nn k).length (aF (aC Nn k)):=by rw [t.out];exact hO
   obtain ⟨A',u,e,hI⟩:=bP hO3;simp only [Value.slice.injEq] at e;obtain ⟨rfl,-,rfl⟩:=e;exact hI
  clear x y;go_wp2_with fail;go_returns;exact ⟨⟨AO,z,rfl,HF.out.1⟩,HF.out.2⟩
theorem Er (A0:Option Addr) (cap n:Nat) (D:Nat→Dm) (A:Nat→Option Addr) (C:Nat→Nat) (w:World) (s:aY w A0 cap n D A C) :
  Calls Tryz.prog 55 #[.agg #[.slice A0 n cap]] w fun e w'=>(∃ A' f,e=.returned (.tuple #[.slice A' (coL D n).length f,errV (aP D n).2.2])∧aR w' A' f (coL D n))∧Bl w w':=by
 have a:=aq w A0 n cap 24;have F:=aI w A0 n cap 24;obtain ⟨W,B⟩:=aA (ay w A0 n cap 24);rw [B] at a F;unfold ay at B;have k:=aa a
 by_cases c:(aP D n).2.2=0
 case neg =>
  have i:=sB A0 cap n D A C W c (s.later a);have l:Hid (coL D n=[]):=by show _=_;unfold coL;rw [if_neg c]
  have m:Hid (errV (aP D n).2.2=.iface 63 (.int .i64 (aP D n).2.2)):=ak c;rw [ak c] at i;generalize (aP D n).2.2=z at i m;clear s a c
  go_enter Tryz.func55,Tryz.ntmps55
  go_wp2_with fail;refine i.mono ?_;rintro e w1 ⟨rfl,b⟩;go_wp2_with fail;go_returns;rw [l.out,m.out];exact ⟨⟨none,0,rfl,aR.nil _ _ _ (by omega)⟩,ae k.out b⟩
 obtain ⟨o,p⟩:=ew c;have i:=nD A0 cap n D A C W o p (s.later a);have l:Hid (coL D n=aC (rowsL D n) (prodN D n)∧(coL D n).length=prodN D n):=by
  have e:coL D n=aC (rowsL D n) (prodN D n):=by unfold coL;rw [if_pos c]
  exact ⟨e,by rw [e];exact eb (ff p o) (fA p o) (prodN D n) (by rw [bL];exact zT)⟩
 have d:Hid (∀ j g X w',cI w' j g n D X→Calls Tryz.prog 38 #[.pointer (some ⟨j,0,none⟩)] w' fun e w''=>(∃ A' f,e=.returned (.tuple #[.slice A' (coL D n).length f,.nilIface])∧aR w'' A' f (coL D n))∧Bl w' w''):=fun j g X w' h=>by
  have v:=mX j g n D X w' p o h;rw [←l.out.1,←l.out.2] at v;exact v
 rw [c,errV_zero];generalize coL D n=L at d ⊢;generalize L.length=ll at d ⊢;clear s a c o p l
 go_enter Tryz.func55,Tryz.ntmps55
 go_wp2_with fail;refine i.mono ?_;rintro e w1 ⟨⟨j,g,X,rfl,-,-,y⟩,b⟩;have t:=aa (ae k.out b);have r:=d.out j g X w1 y;clear b i y;go_wp2_with fail;refine r.mono ?_;rintro e w2 ⟨⟨A',f,rfl,x⟩,q⟩;have E:=aa x;have u:=aa (ae t.out q);clear x q r;go_wp2_with fail;go_returns;exact ⟨⟨A',f,rfl,E.out⟩,u.out⟩
def DN (D:Nat→Dm) (n:Nat) (inp:List Int→Int×Int) (O:List Int) (k:Nat) (L:List (Int×Int)):Prop:=L.length=prodN D n∧∀ j:Nat,j<prodN D n→((j:Int)∈O.take k→L.getD j noC=ey D n inp (aj D n j))∧((j:Int)∉O.take k→L.getD j noC=inp (aj D n j))
theorem me {w:World} {A:Option Addr} {c g x:Nat} {L:List Int} {f:Array Value} {fr:Nat×Nat} {a b:Value} (h:aR w A c L) (k:w.heap[g]?=some (.cells f 52 fr)):aR ((w.setCell ⟨g,x,none⟩ a).setCell ⟨g,x+1,none⟩ b) A c L:=h.keep fun b' cs j i=>by
 have d:b'≠g:=fun e=>by
  rw [e,k] at i
  simp at i
 rw [av _ _ _ _ _ d,av _ _ _ _ _ d]
theorem tK (A0:Option Addr) (cap n:Nat) (D:Nat→Dm) (A:Nat→Option Addr) (C:Nat→Nat) (AE:Option Addr) (ce:Nat) (xs:List EnL) (w:World) (hM:aY w A0 cap n D A C) (I:b6 w AE ce xs) :
  Calls Tryz.prog 19 #[.agg #[.slice A0 n cap],.slice AE xs.length ce] w fun e w'=>(∃ A' c',e=.returned (.tuple #[.slice A' (caL D n (lE xs)).length c',errV (fj D n (lE xs))])∧dw w' A' c' (caL D n (lE xs))∧eU w.heap.size A')∧Bl w w':=by
 have f:=aq w A0 n cap 24;have hS:=aw w A0 n cap 24;have hA:=aI w A0 n cap 24;obtain ⟨W,hW⟩:=aA (ay w A0 n cap 24);rw [hW] at f hS hA;unfold ay at hW;have v:=aa f;have Y:w.heap.size<W.heap.size:=by omega
 have HA:=aa hA
 by_cases P:(aP D n).2.2=0
 case neg =>
  have hl:=sB A0 cap n D A C W P (hM.later f);have HE:Hid (fj D n (lE xs)=(aP D n).2.2∧caL D n (lE xs)=[]):=by
   have e1:fj D n (lE xs)=(aP D n).2.2:=by unfold fj;rw [if_pos P]
   exact ⟨e1,se (by rw [e1];exact P)⟩
  have E:Hid (errV (aP D n).2.2=.iface 63 (.int .i64 (aP D n).2.2)):=ak P;rw [ak P] at hl;generalize xs.length=xl;generalize (aP D n).2.2=z at hl HE E;clear hM f P hS I
  go_enter Tryz.func19,Tryz.ntmps19
  go_wp2_with fail;refine hl.mono ?_;rintro e w1 ⟨rfl,c⟩;go_wp2_with fail;go_returns;rw [HE.out.1,HE.out.2,E.out];exact ⟨⟨none,0,rfl,dw.nil _ _ _ (by omega),eU.none _⟩,ae v.out c⟩
 obtain ⟨i,p⟩:=ew P;have hl:=nD A0 cap n D A C W i p (hM.later f);have J:fj D n (lE xs)=entsErr D n (lE xs):=by unfold fj;rw [if_neg (by simpa using P)]
 by_cases he:entsErr D n (lE xs)=0
 case neg =>
  have HE:Hid (fj D n (lE xs)=entsErr D n (lE xs)∧caL D n (lE xs)=[]):=⟨J,se (by rw [J];exact he)⟩
  have E:Hid (errV (entsErr D n (lE xs))=.iface 63 (.int .i64 (entsErr D n (lE xs)))):=ak he;have d:Hid (∀ w',Bl w w'→Calls Tryz.prog 37 #[.agg #[.slice A0 n cap],.slice AE xs.length ce] w' fun e w''=>(∃ A' c',e=.returned (.tuple #[.slice A' 0 c',.iface 63 (.int .i64 (entsErr D n (lE xs)))]))∧Bl w' w''):=fun w' hB=>wR A0 cap n D A C AE ce xs w' (hM.later hB) (I.later hB) he
  generalize xs.length=xl at d ⊢;generalize entsErr D n (lE xs)=z at HE E d;clear hM f P hS I i p he J
  go_enter Tryz.func19,Tryz.ntmps19
  go_wp2_with fail;refine hl.mono ?_;rintro e w1 ⟨⟨u,g,X,rfl,-,-,-⟩,c⟩;have B:=aa c;have c1:=aD c Y HA.out;have hs1:w.heap.size<w1.heap.size:=zW Y c.size;clear c hl hA hW;go_wp2_with fail;refine (d.out w1 (ae v.out B.out)).mono ?_;rintro e w2 ⟨⟨A2,c2,rfl⟩,t⟩;have HB2:=aa (ae (ae v.out B.out) t);clear t c1;go_wp2_with fail;go_returns;rw [HE.out.1,HE.out.2,E.out];exact ⟨⟨none,0,rfl,dw.nil _ _ _ (by omega),eU.none _⟩,HB2.out⟩
 have hEs:=sk he;have U:fj D n (lE xs)=0:=J.trans he;have d:Hid (∀ w',Bl w w'→Calls Tryz.prog 37 #[.agg #[.slice A0 n cap],.slice AE xs.length ce] w' fun e w''=>(∃ g,e=.returned (.tuple #[.slice (some ⟨g,0,none⟩) (prodN D n) (prodN D n),.nilIface])∧w'.heap.size≤g∧bT w'' g (wrV D n (lE xs)))∧Bl w' w''):=fun w' hB=>wS A0 cap n D A C AE ce xs w' (hM.later hB) (I.later hB) he
 obtain ⟨-,-,hp3,-⟩:=au i;obtain ⟨O,hO⟩:=aA (aC (rowsL D n) (prodN D n));have q:Hid (O.length=prodN D n):=by show _=_;rw [←hO];exact eb (ff p i) (fA p i) (prodN D n) (by rw [bL];exact zT)
 have HOr:Hid (∀ u g X w',cI w' u g n D X→Calls Tryz.prog 38 #[.pointer (some ⟨u,0,none⟩)] w' fun e w''=>(∃ A' c',e=.returned (.tuple #[.slice A' (prodN D n) c',.nilIface])∧aR w'' A' c' O)∧Bl w' w''):=fun u g X w' h=>by
  have M:=mX u g n D X w' p i h;rw [hO] at M;exact M
 have G:Hid (∀ k L,k<prodN D n→DN D n (getE (lE xs)) O k L→∃ m:Nat,O.getD k 0=(m:Int)∧m<prodN D n∧(∀ z∈ndsX D n m,b5 (L.getD z.toNat noC))∧qg D n L m=ey D n (getE (lE xs)) (aj D n m)∧DN D n (getE (lE xs)) O (k+1) (L.set m (ey D n (getE (lE xs)) (aj D n m)))):=fun k L hk a=>by
  obtain ⟨m,h1,M,h3,h4,h5⟩:=xP (ff p i) (fA p i) (k:=k) (by rw [bL];exact hk)
  rw [bL,hO] at h1 h3 h4 h5;rw [bL] at M;have hnds:∀ z∈ndsX D n m,∃ y:Nat,z=(y:Int)∧y<prodN D n∧(y:Int)∈O.take k:=fun z hz=>by
   obtain ⟨y,rfl,hy⟩:=xE p i M z hz;refine ⟨y,rfl,hy,h4 _ ?_⟩;have ht:=iA p i M;rw [lx M,←lC p i ht,(List.mergeSort_perm _ _).mem_iff];exact hz
  have hL1:∀ z∈ndsX D n m,L.getD z.toNat noC=ey D n (getE (lE xs)) (aj D n z.toNat):=fun z hz=>by
   obtain ⟨y,rfl,hy,hyO⟩:=hnds z hz;rw [Int.toNat_natCast];exact (a.2 y hy).1 hyO
  refine ⟨m,h1,M,fun z hz=>?_,Gm p i M (fun _=>(a.2 m M).2 h3) hL1,by rw [List.length_set];exact a.1,fun j hj=>?_⟩
  ·rw [hL1 z hz]
   exact oQ p (ma hEs) _ _ (bY i) (Nat.lt_succ_self _)
  by_cases e:j=m
  ·subst e
   refine ⟨fun _=>?_,fun h=>absurd ?_ h⟩
   ·rw [zZ,List.getElem?_set_self (by rw [a.1];exact hj)]
    rfl
   rw [h5];simp
  have ht:(j:Int)∈O.take (k+1)↔(j:Int)∈O.take k:=by
   rw [h5,List.mem_append,List.mem_singleton];exact ⟨fun h=>h.resolve_right (by omega),Or.inl⟩
  rw [ht,zZ,List.getElem?_set_ne (fun h=>e h.symm),←zZ]
  exact a.2 j hj
 have HTl:Hid (∀ u g X gC L m w',cI w' u g n D X→bT w' gC L→L.length=prodN D n→m<prodN D n→(∀ z∈ndsX D n m,b5 (L.getD z.toNat noC))→Rt 39 #[.pointer (some ⟨u,0,none⟩),.slice (some ⟨gC,0,none⟩) (prodN D n) (prodN D n),.int .i64 m] w' (.tuple #[.agg #[.int .i64 (qg D n L m).1,.int .i64 (qg D n L m).2],.nilIface])):=fun u g X gC L m w' hP hC l hm V=>ry u g n D X m (some ⟨gC,0,none⟩) (prodN D n) L w' p i hm hP l ⟨by rw [l];exact zT,by omega,Or.inr ⟨gC,0,rfl,hC.celAt⟩⟩ V
 have S:Hid (∀ L,DN D n (getE (lE xs)) O (prodN D n) L→L=caL D n (lE xs)):=fun L h=>D8 U h.1 fun j hj=>(h.2 j hj).1 (by
  rw [List.take_of_length_le (by rw [q.out];exact zT),←hO]
  have hnd:=pq (rowsL D n) (prodN D n);refine Classical.byContradiction fun hn=>?_
  have:=few (prodN D n) ((j:Int) :: aC (rowsL D n) (prodN D n)) (List.nodup_cons.2 ⟨hn,hnd.1⟩) fun x hx=>by
   rcases List.mem_cons.1 hx with rfl | hx
   ·omega
   have:=hnd.2 x hx;rw [bL] at this;exact this
  rw [List.length_cons,hO,q.out] at this
  omega)
 have F:Hid (DN D n (getE (lE xs)) O 0 (wrV D n (lE xs))):=⟨nN ..,fun j hj=>⟨fun h=>by simp at h,fun _=>JZ hEs hj⟩⟩
 have Q:Hid ((caL D n (lE xs)).length=prodN D n):=gK U;rw [U,errV_zero,Q.out];generalize caL D n (lE xs)=CA at S Q ⊢;generalize getE (lE xs)=inp at G S F;generalize wrV D n (lE xs)=W0 at d F;generalize xs.length=xl at d ⊢;obtain ⟨N,hN⟩:=aA (prodN D n);have HN:=aa hN;rw [hN] at d q HOr G HTl S hp3 Q ⊢;have hNI:(N:Int)≤3000:=by omega
 clear hM f P hS I i p he J hEs U hO hN
 go_enter Tryz.func19,Tryz.ntmps19
 go_wp2_with fail;refine hl.mono ?_;rintro e w1 ⟨⟨u,g,X,rfl,-,-,hP1⟩,c⟩;have HP1:=aa hP1;have B:=aa c;have c1:=aD c Y HA.out;have hs1:w.heap.size<w1.heap.size:=zW Y c.size;clear c hl hA hW hP1;go_wp2_with fail;refine (d.out w1 (ae v.out B.out)).mono ?_;rintro e w2 ⟨⟨gC,rfl,hgC,hC2⟩,t⟩;have HB2:=aa t;have HC2:=aa hC2;have hor:=HOr.out u g X w2 (HP1.out.later t);clear t c1 hC2;go_wp2_with fail;refine hor.mono ?_;rintro e w3 ⟨⟨A3,c3,rfl,hI3⟩,hb3⟩;have HB3:=aa (ae HB2.out hb3);have HC3:=aa (HC2.out.later hb3);have HI3:=aa hI3;clear hb3 hor hI3;go_wp2_with fail
 go_loopg [7,39] N (fun gg s7 s39 wr => ∃ (k:Nat),k≤N∧gg=N-k∧s39=.int .i64 k∧s7=.nilIface∧Hid (∃ L,bT wr gC L∧DN D n inp O k L)∧Hid (aR wr A3 c3 O)∧Hid (Bl w1 wr))
 case atStart=>exact ⟨0,zU,rfl,rfl,rfl,aa ⟨W0,HC3.out,F.out⟩,HI3,HB3⟩
 case round =>
  obtain ⟨k,hk,rfl,rfl,rfl,HL,HI,HBw⟩:=hrel
  by_cases hlt:k<N
  ·have hki:(k:Int)<(N:Int):=by omega
   obtain ⟨L,s,a⟩:=HL.out;obtain ⟨m,hm,hmN,V,htl,H⟩:=G.out k L hlt a;have l:L.length=N:=by rw [←HN.out];exact a.1
   have K:=HTl.out u g X gC L m wr (HP1.out.later HBw.out) s l hmN V;rw [htl] at K;obtain ⟨⟨ra,rb⟩,hRe⟩:∃ R,ey D n inp (aj D n m)=R:=⟨_,rfl⟩;rw [hRe] at K H;simp only at K;obtain ⟨hcS,-,hS0 | ⟨bs,cs,fr,rfl,hbS,hcl⟩⟩:=HI.out
   ·have:=q.out;rw [hS0] at this;simp at this;omega
   have cx:=hcl k (by rw [q.out];exact hlt)
   have hbs:bs<wr.heap.size:=(zY hbS).1;rw [q.out] at hcS;rw [hm] at cx;have hcSI:(N:Int)≤(c3:Int):=by omega
   have hmI:(m:Int)<(N:Int):=by omega
   have HCL:=aa s;have HAS2:=aa H;have HLl:=aa l;clear hcl hbS hm V htl hRe a H s;go_wp2_with fail;refine K.mono ?_;rintro e w5 ⟨rfl,T⟩;have r:=HCL.out.later T;obtain ⟨r0,r1⟩:=r.at (k:=m) (by rw [HLl.out];exact hmN)
   have f0:=r.frozen (m*2);have f1:=r.frozen (m*2+1);have hgl:=r.lt;have HC5:Hid (bT ((w5.setCell ⟨gC,m*2,none⟩ (.int .i64 ra)).setCell ⟨gC,m*2+1,none⟩ (.int .i64 rb)) gC (L.set m (ra,rb))):=r.set (by rw [HLl.out];exact hmN) ra rb
   obtain ⟨cur,Z,-⟩:=r;have HI5:Hid (aR ((w5.setCell ⟨gC,m*2,none⟩ (.int .i64 ra)).setCell ⟨gC,m*2+1,none⟩ (.int .i64 rb)) (some ⟨bs,0,none⟩) c3 O):=me (HI.out.later T) Z;have HB5:Hid (Bl w1 ((w5.setCell ⟨gC,m*2,none⟩ (.int .i64 ra)).setCell ⟨gC,m*2+1,none⟩ (.int .i64 rb))):=((ae HBw.out T).setCell hgC _).setCell hgC _;clear T K Z;go_wp2_with fail
   go_roundg (N-(k+1))
   case measure=>omega
   case rel=>exact ⟨k+1,by omega,rfl,by go_num,rfl,aa ⟨_,HC5.out,HAS2.out⟩,HI5,HB5⟩
  have hke:k=N:=by omega
  subst hke;have HgC:Hid (eU w.heap.size (some ⟨gC,0,none⟩)):=fun b o e=>by cases e;exact zV (Nat.le_of_lt hs1) hgC
  have HF:Hid (dw wr (some ⟨gC,0,none⟩) k CA):=by
   obtain ⟨L,s,a⟩:=HL.out;have hLe:=S.out L a;have l:=Q.out;rw [hLe] at s;exact ⟨by rw [l];exact zT,by omega,Or.inr ⟨gC,0,rfl,s.celAt⟩⟩
  go_wp2_with fail;go_returns;exact ⟨⟨_,_,rfl,HF.out,HgC.out⟩,ae v.out (ae B.out HBw.out)⟩
theorem D9 (A0:Option Addr) (cap n:Nat) (D:Nat→Dm) (A:Nat→Option Addr) (C:Nat→Nat) (AE:Option Addr) (b:Nat) (xs:List EnL) (w:World) (h:aY w A0 cap n D A C) (c:b6 w AE b xs) :
  Calls Tryz.prog 19 #[.agg #[.slice A0 n cap],.slice AE xs.length b] w fun e w'=>(∃ A' a,e=.returned (.tuple #[.slice A' (caL D n (lE xs)).length a,errV (fj D n (lE xs))])∧dw w' A' a (caL D n (lE xs)))∧Bl w w' :=
 (tK A0 cap n D A C AE b xs w h c).mono fun _ _ ⟨⟨A',a,d,f,_⟩,g⟩=>⟨⟨A',a,d,f⟩,g⟩
end Go.Proofs.YtompdcaikmekkaaGreatDoor
