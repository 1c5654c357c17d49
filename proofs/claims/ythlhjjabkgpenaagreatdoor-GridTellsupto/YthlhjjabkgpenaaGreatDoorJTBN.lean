/- What orderOf of packag -/
import Derived.Test.YthlhjjabkgpenaaGreatDoorJTBM
namespace Go.Proofs.YthlhjjabkgpenaaGreatDoor
open ChangeShapes WideShapes ChangeAt RowKit
set_option maxRecDepth 99999
set_option maxHeartbeats 0
def q9 (w w0:World) (q gM gU N k:Nat) (Nn:List (List Int)) (v:Value):Prop := ∃ M UV gR AR cR RL,QS w w0.heap.size q gM gU N M UV (fun j=>bL Nn j N) gR AR cR RL∧(∀ j,j<N→M j=(eN Nn (ay Nn k) j:Int))∧re Nn (ay Nn k) RL∧w.ownsRow w0.heap.size 3 1 v k (aE (ay Nn k))∧(∀ b,v.ownBlock=some b→b≠gM∧b≠gR∧∀ j,j<N→(UV j).ownBlock≠some b)∧Bl w0 w
section
variable {w w0 w1:World} {q gM gU N k:Nat} {Nn:List (List Int)} {v:Value}
theorem q9.first (h:FN w q gM gU N N Nn w0) (f:Nn.length=N) (o:mw Nn) (v:∀ i:Nat,i<Nn.length→cycB Nn i=false) (p:0<N) (r:N≤3000):q9 (w.alloc (.cells (madeCells #[.int .i64 0] N) 3)) w0 q gM gU N 0 Nn (.slice (some ⟨w.heap.size,0,none⟩) 0 N):=by
 obtain ⟨M,UV,R,s,hM,l⟩:=h;have c:re Nn [] (selTo (fun j=>(Nn.getD j []).isEmpty) N):=BN (by rw [f])
 obtain ⟨m,R',e,-⟩:=oK o v (k:=0) (by omega) c
 obtain ⟨gR,n,d⟩:=QS.of s (by rw [e];simp)
 have a:Bl w (w.alloc (.cells (madeCells #[.int .i64 0] N) 3)):=by go_grown
 refine ⟨M,UV,gR,_,n,_,d.later a,fun j g=>by rw [hM j g];show _=((eN Nn [] j:Nat):Int);rw [Bd],c,?_,fun b t=>?_,ae l a⟩
 ·exact World.ownsRow_made w _ N l.size (by unfold maxLen;omega) (by simp [madeCells])
 have u:w.heap.size=b:=by simpa [Value.ownBlock] using t
 have x:=d.hM.lt;have y:=d.ready.lt;refine ⟨by omega,by omega,fun j g e=>?_⟩
 have:=(bZ (d.own j g) e).2.1
 omega
theorem q9.ready (h:q9 w w0 q gM gU N k Nn v) (f:Nn.length=N) (o:mw Nn) (p:∀ i:Nat,i<Nn.length→cycB Nn i=false):q<w.heap.size∧(k<N→∃ A l c,w.cell? ⟨q,2,none⟩=some (.slice A (l+1) c)∧l≤N)∧(k=N→∃ A c,w.cell? ⟨q,2,none⟩=some (.slice A 0 c)):=by
 obtain ⟨M,UV,gR,AR,n,RL,g,B,a,-⟩:=h;refine ⟨g.ql,fun y=>?_,fun u=>?_⟩
 ·obtain ⟨m,R',e,-⟩:=oK o p (k:=k) (by omega) a
  have b:=rV (Nn:=Nn) a.1 fun x z=>by obtain ⟨j,r,s,-⟩:=(a.2 x).1 z;exact ⟨j,r,s⟩
  have d:=g.cells.2.2.1;rw [e,List.length_cons] at d;rw [e,List.length_cons] at b;exact ⟨AR,R'.length,n,d,by omega⟩
 have t:RL=[]:=GJ o p (by rw [f,←u];exact a)
 have d:=g.cells.2.2.1;rw [t] at d;exact ⟨AR,n,d⟩
theorem q9.step (h:q9 w w0 q gM gU N k Nn v) (H:Nn.length=N) (U:mw Nn) (B:∀ i:Nat,i<Nn.length→cycB Nn i=false) (Z:∀ j,j<Nn.length→(Nn.getD j []).Pairwise (· < ·)) (X:∀ j,j<Nn.length→(Nn.getD j []).length≤12) (G:N≤3000) (W:k<N) :
  Calls Tryz.prog 97 #[.pointer (some ⟨q,0,none⟩)] w fun e w4 => ∃ m:Nat,e=.returned (.int .i64 m)∧m<N∧w4.ownsRow w0.heap.size 3 1 v k (aE (ay Nn k))∧w0.heap.size≤w4.heap.size∧∀ (w5 w6:World) (v':Value),Bl w4 w5→w6.ownsRow w0.heap.size 3 1 v' (k+1) (aE (ay Nn k) ++ [.int .i64 (m:Int)])→w5.grownBy w6 v.ownBlock→(v'.ownBlock=v.ownBlock∨v'.ownBlock=some w5.heap.size)→q9 w6 w0 q gM gU N (k+1) Nn v':=by
 obtain ⟨M,UV,gR,AR,S,RL,s,hM,J,A,R,o⟩:=h;refine (BJ w0.heap.size q gM gU N k Nn M UV gR AR S RL w G H U B Z X W o.size s hM J).mono ?_;rintro e w4 ⟨m,rfl,Y,Q,M',gR',AR',C,RL',f,F,z,O,p⟩;have l:∀ b,v.ownBlock=some b→b≠q∧b≠gU∧b<w.heap.size:=fun b a=>by
  obtain ⟨-,x,t,B⟩:=bZ A a;exact ⟨(s.off B).1,(s.off B).2,x⟩
 have I:w4.ownsRow w0.heap.size 3 1 v k (aE (ay Nn k)):=by
  refine ⟨A.1,?_⟩
  rcases A.2 with h0 | ⟨g,cap,t,rfl,x,D,h4⟩
  ·exact Or.inl h0
  refine Or.inr ⟨g,cap,t,rfl,x,(p.block g (zY D).1 ?_).trans D,h4⟩;have n:=R g rfl;have E:=l g rfl;rintro (e | e | e)
  ·exact E.1 e
  ·exact n.1 e
  exact n.2.1 e
 have y:Bl w0 w4:=⟨p.os.trans o.os,p.tape.trans o.tape,p.output.trans o.output,zV o.size p.size,fun b a=>(p.block b (zW a o.size) (by
  have u:=s.lq;have x:=s.lM;have D:=s.lR;rintro (e | e | e) <;> omega)).trans (o.block b a)⟩
 refine ⟨m,rfl,Y,I,y.size,fun w5 w6 v' n E r L=>?_⟩
 have d:∀ b,v.ownBlock=some b→b≠gM∧b≠gR'∧∀ j,j<N→(UV j).ownBlock≠some b:=fun b a=>by
  have u:=R b a;refine ⟨u.1,?_,u.2.2⟩
  rcases O with e | e
  ·rw [e];exact u.2.1
  have:=(l b a).2.2;omega
 have K:=(f.later n).keep r (fun e=>(l q e).1 rfl) (fun e=>(d gM e).1 rfl) (fun e=>(l gU e).2.1 rfl) (fun e=>(d gR' e).2.1 rfl) (fun j P b a e=>(d b e).2.2 j P a)
 refine ⟨M',UV,gR',AR',C,RL',K,F,z,?_,fun b a=>?_,?_⟩
 ·rw [Q,mapI_snoc];exact E
 ·rcases L with e | e
  ·exact d b (e.symm.trans a)
  have V:w5.heap.size=b:=by rw [e] at a;simpa using a
  have u:=(f.later n).hM.lt;have x:=(f.later n).ready.lt;refine ⟨by omega,by omega,fun j P T=>?_⟩
  have:=(bZ ((f.later n).own j P) T).2.1
  omega
 have c:=ae y n;refine ⟨r.os.trans c.os,r.tape.trans c.tape,r.output.trans c.output,zV c.size r.size,fun b a=>(r.block b (zW a c.size) (fun e=>by have:=(bZ A e.symm).1;omega)).trans (c.block b a)⟩
end
theorem ul (W g n:Nat) (D:Nat→Dm) (X:Nat→AL) (w:World) (r:dS D n) (o:(ah D n).2.2=0) (hA:ff w W g n D X) :
  Calls Tryz.prog 63 #[.pointer (some ⟨W,0,none⟩)] w fun e w'=>(∃ A' u,e=.returned (.tuple #[.slice A' (prodN D n) u,.nilIface])∧aY w' A' u (ay (cH D n) (prodN D n)))∧Bl w w':=by
 obtain ⟨i0,L,T,U,V⟩:=info_parts Tryz.infoInt;obtain ⟨hn1,hn4,Q,hd⟩:=aw o;have p:=Ef W g n D X w r o hA;have E:Hid (∀ w',Bl w w'→Calls Tryz.prog 96 #[.pointer (some ⟨W,0,none⟩)] w' fun e w''=>e=.returned (.int .i64 (prodN D n:Nat))∧w''=w'):=fun w' hB=>mh W g n D X w' (hA.later hB)
 have H:0<prodN D n:=BD fun i hi=>(hd i hi).1
 have f:=aa (i8 r o);have d:=aa (jw r o);have F:=aa (Cb r o);have B:Hid (∀ j,j<(cH D n).length→((cH D n).getD j []).length≤12):=fun j hj=>(gY r o (by rw [dl] at hj;exact hj)).2.1
 have b:Hid ((cH D n).length=prodN D n):=dl;have t:Hid ((ay (cH D n) (prodN D n)).length=prodN D n):=by
  show _=_
  have h:=eK (i8 r o) (jw r o) (prodN D n) (by rw [dl];exact zT)
  exact h
 obtain ⟨Nn,I⟩:=ax (cH D n);rw [I] at p f d F B b t ⊢;obtain ⟨N,hN⟩:=ax (prodN D n);rw [hN] at p E b t Q H ⊢;have hNI:(N:Int)≤3000:=by omega
 have hmk:∀ w:World,(Instr.makeSlice 26 (.int .i64 0) (.int .i64 (N:Int))).run Tryz.prog w=.ok (.slice (some ⟨w.heap.size,0,none⟩) 0 N) (w.alloc (.cells (madeCells #[.int .i64 0] N) 3)):=fun w=>by
  have hr:=run_make (P:=Tryz.prog) w 26 3 i0 _ Tryz.underlying26 L T .i64 .i64 0 N (by omega) (by omega) (by rw [V];omega) (by omega)
  simp only [Int.toNat_natCast,U,Nat.mul_one] at hr;exact hr
 have C:=aa Q;clear hA o r hd I hN
 go_enter Tryz.func63,Tryz.ntmps63
 go_wp2_with fail;refine p.mono ?_;rintro e w1 ⟨q,gM,gU,rfl,v⟩;have Lt:=aa v;have G:Bl w w1:=by obtain ⟨-,-,-,-,-,h⟩:=v;exact h
 have R:=E.out w1 G;clear p v;go_wp2_with fail;refine R.mono ?_;rintro e w2 ⟨rfl,rfl⟩;have HS0:=aa (q9.first Lt.out b.out f.out d.out H C.out);clear R G;go_wp2_with fail;clear hmk
 go_loopg [6] N (fun gg s6 wr => ∃ (k:Nat) (AO:Option Addr) (z:Nat),k≤N∧gg=N-k∧s6=.slice AO k z∧Hid (q9 wr w q gM gU N k Nn (.slice AO k z)))
 case atStart=>exact ⟨0,_,_,zU,rfl,rfl,HS0⟩
 case round =>
  obtain ⟨k,AO,z,hk,rfl,rfl,HS⟩:=hrel;obtain ⟨hql,x,y⟩:=HS.out.ready b.out f.out d.out
  by_cases O:k<N
  ·obtain ⟨Aq,l,cq,k2,hlN⟩:=x O
   have hlI:(l:Int)≤3000:=by omega
   have S:=HS.out.step b.out f.out d.out F.out B.out C.out O;clear x y;go_wp2_with fail;refine S.mono ?_;rintro e w4 ⟨m,rfl,hmN,J,hs4,s⟩;have Z:=aa J;have A:=aa s;clear S J s k2
   go_wp2_with (at_builtin;refine wpList_append_own_at _ rfl _ _ 26 rfl w.heap.size 3 i0 (.int .i64 0) 1 8 Tryz.underlying26 L T U V rfl (by decide) _ _ _ rfl (Z.out.alloc _) ⟨w4.heap.size,0,none⟩ 1 1 [.int .i64 m] rfl rfl bu dY (by unfold maxLen;omega) (by omega) (by simp;omega) ?_)
   intro v' w6 a c _ K;obtain ⟨A',u,rfl⟩:∃ A' u,v'=.slice A' (k+1) u:=by
    rcases a.2 with ⟨-,h⟩ | ⟨g',u,cur,h,-⟩
    ·omega
    exact ⟨_,_,h⟩
   have Y:=aa (A.out _ _ _ (by go_grown) a c (K.imp id fun h=>by rw [h];simp))
   clear a c K;go_wp2_with fail
   go_roundg (N-(k+1))
   case measure=>omega
   case rel=>exact ⟨k+1,_,_,by omega,rfl,rfl,Y⟩
  have M:k=N:=by omega
  obtain ⟨Aq,cq,k2⟩:=y M;subst M;have HF:Hid (aY wr AO z (ay Nn k)∧Bl w wr):=by
   obtain ⟨-,-,-,-,-,-,-,-,-,hO,-,hB⟩:=HS.out;refine ⟨?_,hB⟩;have hO3:wr.ownsRow w.heap.size 3 1 (.slice AO k z) (ay Nn k).length (aE (ay Nn k)):=by rw [t.out];exact hO
   obtain ⟨A',u,e,hI⟩:=cE hO3;simp only [Value.slice.injEq] at e;obtain ⟨rfl,-,rfl⟩:=e;exact hI
  clear x y;go_wp2_with fail;go_returns;exact ⟨⟨AO,z,rfl,HF.out.1⟩,HF.out.2⟩
def CJ (D:Nat→Dm) (n:Nat) (inp:List Int→Int×Int) (O:List Int) (k:Nat) (L:List (Int×Int)):Prop:=L.length=prodN D n∧∀ j:Nat,j<prodN D n→((j:Int)∈O.take k→L.getD j noC=fD D n inp (ak D n j))∧((j:Int)∉O.take k→L.getD j noC=inp (ak D n j))
theorem AH {w:World} {A:Option Addr} {c g x:Nat} {L:List Int} {f:Array Value} {fr:Nat×Nat} {a b:Value} (h:aY w A c L) (k:w.heap[g]?=some (.cells f 40 fr)):aY ((w.setCell ⟨g,x,none⟩ a).setCell ⟨g,x+1,none⟩ b) A c L:=h.keep fun b' cs j i=>by
 have d:b'≠g:=fun e=>by
  rw [e,k] at i
  simp at i
 rw [ao _ _ _ _ _ d,ao _ _ _ _ _ d]
theorem C7 (A0:Option Addr) (cap n:Nat) (D:Nat→Dm) (A:Nat→Option Addr) (C:Nat→Nat) (AE:Option Addr) (ce:Nat) (a:List EnL) (w:World) (hM:bd w A0 cap n D A C) (J:ii w AE ce a) :
  Calls Tryz.prog 24 #[.agg #[.slice A0 n cap],.slice AE a.length ce] w fun e w'=>(∃ A' c',e=.returned (.tuple #[.slice A' (caL D n (lE a)).length c',errV (cuErr D n (lE a))])∧dt w' A' c' (caL D n (lE a))∧zr w.heap.size A')∧Bl w w':=by
 have i:=aA w A0 n cap 24;have hS:=aF w A0 n cap 24;have hA:=aR w A0 n cap 24;obtain ⟨W,hW⟩:=ax (aD w A0 n cap 24);rw [hW] at i hS hA;unfold aD at hW;have B:=aa i;have Z:w.heap.size<W.heap.size:=by omega
 have HA:=aa hA
 by_cases Q:(bM D n).2.2=0
 case neg =>
  have hl:=Gj A0 cap n D A C W Q (hM.later i);have HE:Hid (cuErr D n (lE a)=(bM D n).2.2∧caL D n (lE a)=[]):=by
   have e1:cuErr D n (lE a)=(bM D n).2.2:=by unfold cuErr;rw [if_pos Q]
   exact ⟨e1,yn (by rw [e1];exact Q)⟩
  have F:Hid (errV (bM D n).2.2=.iface 68 (.int .i64 (bM D n).2.2)):=aj Q;rw [aj Q] at hl;generalize a.length=xl;generalize (bM D n).2.2=z at hl HE F;clear hM i Q hS J
  go_enter Tryz.func24,Tryz.ntmps24
  go_wp2_with fail;refine hl.mono ?_;rintro e w1 ⟨rfl,d⟩;go_wp2_with fail;go_returns;rw [HE.out.1,HE.out.2,F.out];exact ⟨⟨none,0,rfl,dt.nil _ _ _ (by omega),zr.none _⟩,ae B.out d⟩
 obtain ⟨l,q⟩:=kT Q;have hl:=Gi A0 cap n D A C W l q (hM.later i);have K:cuErr D n (lE a)=entsErr D n (lE a):=by unfold cuErr;rw [if_neg (by simpa using Q)]
 by_cases he:entsErr D n (lE a)=0
 case neg =>
  have HE:Hid (cuErr D n (lE a)=entsErr D n (lE a)∧caL D n (lE a)=[]):=⟨K,yn (by rw [K];exact he)⟩
  have F:Hid (errV (entsErr D n (lE a))=.iface 68 (.int .i64 (entsErr D n (lE a)))):=aj he;have f:Hid (∀ w',Bl w w'→Calls Tryz.prog 62 #[.agg #[.slice A0 n cap],.slice AE a.length ce] w' fun e w''=>(∃ A' c',e=.returned (.tuple #[.slice A' 0 c',.iface 68 (.int .i64 (entsErr D n (lE a)))]))∧Bl w' w''):=fun w' hB=>vG A0 cap n D A C AE ce a w' (hM.later hB) (J.later hB) he
  generalize a.length=xl at f ⊢;generalize entsErr D n (lE a)=z at HE F f;clear hM i Q hS J l q he K
  go_enter Tryz.func24,Tryz.ntmps24
  go_wp2_with fail;refine hl.mono ?_;rintro e w1 ⟨⟨v,g,X,rfl,-,-,-⟩,d⟩;have E:=aa d;have c1:=aL d Z HA.out;have hs1:w.heap.size<w1.heap.size:=zW Z d.size;clear d hl hA hW;go_wp2_with fail;refine (f.out w1 (ae B.out E.out)).mono ?_;rintro e w2 ⟨⟨A2,c2,rfl⟩,u⟩;have HB2:=aa (ae (ae B.out E.out) u);clear u c1;go_wp2_with fail;go_returns;rw [HE.out.1,HE.out.2,F.out];exact ⟨⟨none,0,rfl,dt.nil _ _ _ (by omega),zr.none _⟩,HB2.out⟩
 have hEs:=vB he;have V:cuErr D n (lE a)=0:=K.trans he;have f:Hid (∀ w',Bl w w'→Calls Tryz.prog 62 #[.agg #[.slice A0 n cap],.slice AE a.length ce] w' fun e w''=>(∃ g,e=.returned (.tuple #[.slice (some ⟨g,0,none⟩) (prodN D n) (prodN D n),.nilIface])∧w'.heap.size≤g∧da w'' g (wrV D n (lE a)))∧Bl w' w''):=fun w' hB=>vH A0 cap n D A C AE ce a w' (hM.later hB) (J.later hB) he
 obtain ⟨-,-,hp3,-⟩:=aw l;obtain ⟨O,hO⟩:=ax (ay (cH D n) (prodN D n));have r:Hid (O.length=prodN D n):=by show _=_;rw [←hO];exact eK (i8 q l) (jw q l) (prodN D n) (by rw [dl];exact zT)
 have HOr:Hid (∀ v g X w',ff w' v g n D X→Calls Tryz.prog 63 #[.pointer (some ⟨v,0,none⟩)] w' fun e w''=>(∃ A' c',e=.returned (.tuple #[.slice A' (prodN D n) c',.nilIface])∧aY w'' A' c' O)∧Bl w' w''):=fun v g X w' h=>by
  have P:=ul v g n D X w' q l h;rw [hO] at P;exact P
 have H:Hid (∀ k L,k<prodN D n→CJ D n (getE (lE a)) O k L→∃ m:Nat,O.getD k 0=(m:Int)∧m<prodN D n∧(∀ z∈ndsX D n m,b7 (L.getD z.toNat noC))∧xK D n L m=fD D n (getE (lE a)) (ak D n m)∧CJ D n (getE (lE a)) O (k+1) (L.set m (fD D n (getE (lE a)) (ak D n m)))):=fun k L hk c=>by
  obtain ⟨m,h1,P,h3,h4,h5⟩:=EH (i8 q l) (jw q l) (k:=k) (by rw [dl];exact hk)
  rw [dl,hO] at h1 h3 h4 h5;rw [dl] at P;have hnds:∀ z∈ndsX D n m,∃ y:Nat,z=(y:Int)∧y<prodN D n∧(y:Int)∈O.take k:=fun z hz=>by
   obtain ⟨y,rfl,hy⟩:=Eb q l P z hz;refine ⟨y,rfl,hy,h4 _ ?_⟩;have ht:=iX q l P;rw [mJ P,←mO q l ht,(List.mergeSort_perm _ _).mem_iff];exact hz
  have hL1:∀ z∈ndsX D n m,L.getD z.toNat noC=fD D n (getE (lE a)) (ak D n z.toNat):=fun z hz=>by
   obtain ⟨y,rfl,hy,hyO⟩:=hnds z hz;rw [Int.toNat_natCast];exact (c.2 y hy).1 hyO
  refine ⟨m,h1,P,fun z hz=>?_,Iw q l P (fun _=>(c.2 m P).2 h3) hL1,by rw [List.length_set];exact c.1,fun j hj=>?_⟩
  ·rw [hL1 z hz]
   exact tm q (qi hEs) _ _ (cQ l) (Nat.lt_succ_self _)
  by_cases e:j=m
  ·subst e
   refine ⟨fun _=>?_,fun h=>absurd ?_ h⟩
   ·rw [zZ,List.getElem?_set_self (by rw [c.1];exact hj)]
    rfl
   rw [h5];simp
  have ht:(j:Int)∈O.take (k+1)↔(j:Int)∈O.take k:=by
   rw [h5,List.mem_append,List.mem_singleton];exact ⟨fun h=>h.resolve_right (by omega),Or.inl⟩
  rw [ht,zZ,List.getElem?_set_ne (fun h=>e h.symm),←zZ]
  exact c.2 j hj
 have HTl:Hid (∀ v g X gC L m w',ff w' v g n D X→da w' gC L→L.length=prodN D n→m<prodN D n→(∀ z∈ndsX D n m,b7 (L.getD z.toNat noC))→Rt 64 #[.pointer (some ⟨v,0,none⟩),.slice (some ⟨gC,0,none⟩) (prodN D n) (prodN D n),.int .i64 m] w' (.tuple #[.agg #[.int .i64 (xK D n L m).1,.int .i64 (xK D n L m).2],.nilIface])):=fun v g X gC L m w' hP hC p hm Y=>BE v g n D X m (some ⟨gC,0,none⟩) (prodN D n) L w' q l hm hP p ⟨by rw [p];exact zT,by omega,Or.inr ⟨gC,0,rfl,hC.celAt⟩⟩ Y
 have T:Hid (∀ L,CJ D n (getE (lE a)) O (prodN D n) L→L=caL D n (lE a)):=fun L h=>IY V h.1 fun j hj=>(h.2 j hj).1 (by
  rw [List.take_of_length_le (by rw [r.out];exact zT),←hO]
  have hnd:=wL (cH D n) (prodN D n);refine Classical.byContradiction fun hn=>?_
  have:=few (prodN D n) ((j:Int) :: ay (cH D n) (prodN D n)) (List.nodup_cons.2 ⟨hn,hnd.1⟩) fun x hx=>by
   rcases List.mem_cons.1 hx with rfl | hx
   ·omega
   have:=hnd.2 x hx;rw [dl] at this;exact this
  rw [List.length_cons,hO,r.out] at this
  omega)
 have G:Hid (CJ D n (getE (lE a)) O 0 (wrV D n (lE a))):=⟨mS ..,fun j hj=>⟨fun h=>by simp at h,fun _=>Kv hEs hj⟩⟩
 have S:Hid ((caL D n (lE a)).length=prodN D n):=rp V;rw [V,errV_zero,S.out];generalize caL D n (lE a)=CA at T S ⊢;generalize getE (lE a)=inp at H T G;generalize wrV D n (lE a)=W0 at f G;generalize a.length=xl at f ⊢;obtain ⟨N,hN⟩:=ax (prodN D n);have HN:=aa hN;rw [hN] at f r HOr H HTl T hp3 S ⊢;have hNI:(N:Int)≤3000:=by omega
 clear hM i Q hS J l q he K hEs V hO hN
 go_enter Tryz.func24,Tryz.ntmps24
 go_wp2_with fail;refine hl.mono ?_;rintro e w1 ⟨⟨v,g,X,rfl,-,-,hP1⟩,d⟩;have HP1:=aa hP1;have E:=aa d;have c1:=aL d Z HA.out;have hs1:w.heap.size<w1.heap.size:=zW Z d.size;clear d hl hA hW hP1;go_wp2_with fail;refine (f.out w1 (ae B.out E.out)).mono ?_;rintro e w2 ⟨⟨gC,rfl,hgC,hC2⟩,u⟩;have HB2:=aa u;have HC2:=aa hC2;have hor:=HOr.out v g X w2 (HP1.out.later u);clear u c1 hC2;go_wp2_with fail;refine hor.mono ?_;rintro e w3 ⟨⟨A3,c3,rfl,hI3⟩,hb3⟩;have HB3:=aa (ae HB2.out hb3);have HC3:=aa (HC2.out.later hb3);have HI3:=aa hI3;clear hb3 hor hI3;go_wp2_with fail
 go_loopg [7,39] N (fun gg s7 s39 wr => ∃ (k:Nat),k≤N∧gg=N-k∧s39=.int .i64 k∧s7=.nilIface∧Hid (∃ L,da wr gC L∧CJ D n inp O k L)∧Hid (aY wr A3 c3 O)∧Hid (Bl w1 wr))
 case atStart=>exact ⟨0,zU,rfl,rfl,rfl,aa ⟨W0,HC3.out,G.out⟩,HI3,HB3⟩
 case round =>
  obtain ⟨k,hk,rfl,rfl,rfl,HL,HI,HBw⟩:=hrel
  by_cases hlt:k<N
  ·have hki:(k:Int)<(N:Int):=by omega
   obtain ⟨L,t,c⟩:=HL.out;obtain ⟨m,hm,hmN,Y,htl,I⟩:=H.out k L hlt c;have p:L.length=N:=by rw [←HN.out];exact c.1
   have M:=HTl.out v g X gC L m wr (HP1.out.later HBw.out) t p hmN Y;rw [htl] at M;obtain ⟨⟨ra,rb⟩,hRe⟩:∃ R,fD D n inp (ak D n m)=R:=⟨_,rfl⟩;rw [hRe] at M I;simp only at M;obtain ⟨hcS,-,hS0 | ⟨bs,cs,fr,rfl,hbS,hcl⟩⟩:=HI.out
   ·have:=r.out;rw [hS0] at this;simp at this;omega
   have cx:=hcl k (by rw [r.out];exact hlt)
   have hbs:bs<wr.heap.size:=(zY hbS).1;rw [r.out] at hcS;rw [hm] at cx;have hcSI:(N:Int)≤(c3:Int):=by omega
   have hmI:(m:Int)<(N:Int):=by omega
   have HCL:=aa t;have HAS2:=aa I;have HLl:=aa p;clear hcl hbS hm Y htl hRe c I t;go_wp2_with fail;refine M.mono ?_;rintro e w5 ⟨rfl,U⟩;have s:=HCL.out.later U;obtain ⟨r0,r1⟩:=s.at (k:=m) (by rw [HLl.out];exact hmN)
   have f0:=s.frozen (m*2);have f1:=s.frozen (m*2+1);have hgl:=s.lt;have HC5:Hid (da ((w5.setCell ⟨gC,m*2,none⟩ (.int .i64 ra)).setCell ⟨gC,m*2+1,none⟩ (.int .i64 rb)) gC (L.set m (ra,rb))):=s.set (by rw [HLl.out];exact hmN) ra rb
   obtain ⟨cur,Lt,-⟩:=s;have HI5:Hid (aY ((w5.setCell ⟨gC,m*2,none⟩ (.int .i64 ra)).setCell ⟨gC,m*2+1,none⟩ (.int .i64 rb)) (some ⟨bs,0,none⟩) c3 O):=AH (HI.out.later U) Lt;have HB5:Hid (Bl w1 ((w5.setCell ⟨gC,m*2,none⟩ (.int .i64 ra)).setCell ⟨gC,m*2+1,none⟩ (.int .i64 rb))):=((ae HBw.out U).setCell hgC _).setCell hgC _;clear U M Lt;go_wp2_with fail
   go_roundg (N-(k+1))
   case measure=>omega
   case rel=>exact ⟨k+1,by omega,rfl,by go_num,rfl,aa ⟨_,HC5.out,HAS2.out⟩,HI5,HB5⟩
  have hke:k=N:=by omega
  subst hke;have HgC:Hid (zr w.heap.size (some ⟨gC,0,none⟩)):=fun b o e=>by cases e;exact zV (Nat.le_of_lt hs1) hgC
  have HF:Hid (dt wr (some ⟨gC,0,none⟩) k CA):=by
   obtain ⟨L,t,c⟩:=HL.out;have hLe:=T.out L c;have p:=S.out;rw [hLe] at t;exact ⟨by rw [p];exact zT,by omega,Or.inr ⟨gC,0,rfl,t.celAt⟩⟩
  go_wp2_with fail;go_returns;exact ⟨⟨_,_,rfl,HF.out,HgC.out⟩,ae B.out (ae E.out HBw.out)⟩
theorem C6 (A0:Option Addr) (cap n:Nat) (D:Nat→Dm) (A:Nat→Option Addr) (C:Nat→Nat) (AE:Option Addr) (c:Nat) (a:List EnL) (w:World) (i:bd w A0 cap n D A C) (d:ii w AE c a) :
  Calls Tryz.prog 24 #[.agg #[.slice A0 n cap],.slice AE a.length c] w fun e w'=>(∃ A' b,e=.returned (.tuple #[.slice A' (caL D n (lE a)).length b,errV (cuErr D n (lE a))])∧dt w' A' b (caL D n (lE a)))∧Bl w w' :=
 (C7 A0 cap n D A C AE c a w i d).mono fun _ _ ⟨⟨A',b,f,g,_⟩,h⟩=>⟨⟨A',b,f,g⟩,h⟩
section
variable (D:Nat→Dm) (n:Nat) (l:List En) (p:List Int) (row col:Int)
noncomputable def kF:Int:=if cuErr D n l≠0 then cuErr D n l else if placeErr D n p≠0 then placeErr D n p else if aH n row=true∨aH n col=true then 1 else if row=col then 3 else 0
noncomputable def Gc (r c:Nat):Int×Int:=(caL D n l).getD (numI D ((p.set row.toNat r).set col.toNat c) n).toNat noC
noncomputable def Bf:List Int:=if kF D n l p row col=0 then eP (D row.toNat).n else []
noncomputable def Be:List Int:=if kF D n l p row col=0 then eP (D col.toNat).n else []
noncomputable def yQ:List (List (Int×Int)):=if kF D n l p row col=0 then ss (Gc D n l p row col) (D row.toNat).n (D col.toNat).n else []
end
section
variable {D:Nat→Dm} {n:Nat} {l:List En} {p:List Int} {row col:Int}
theorem DZ (h:cuErr D n l≠0):kF D n l p row col=cuErr D n l:=by unfold kF;rw [if_pos h]
theorem D2 (h:cuErr D n l=0) (a:placeErr D n p≠0):kF D n l p row col=placeErr D n p:=by unfold kF;rw [if_neg (by simpa using h),if_pos a]
theorem rF (h:cuErr D n l=0) (a:placeErr D n p=0) (b:aH n row=true∨aH n col=true):kF D n l p row col=1:=by unfold kF;rw [if_neg (by simpa using h),if_neg (by simpa using a),if_pos b]
theorem D1 (h:cuErr D n l=0) (a:placeErr D n p=0) (b:aH n row=false) (c:aH n col=false):kF D n l p row col=if row=col then 3 else 0:=by unfold kF;rw [if_neg (by simpa using h),if_neg (by simpa using a),if_neg (by rw [b,c];decide)]
theorem eL {n:Nat} {x:Int} (h:aH n x=false):∃ k:Nat,x=k∧k<n:=by
 unfold aH at h
 simp at h
 exact ⟨x.toNat,by omega,by omega⟩
theorem qy (h:kF D n l p row col=0):cuErr D n l=0∧placeErr D n p=0∧∃ i k:Nat,row=i∧col=k∧i<n∧k<n∧i≠k:=by
 by_cases a:cuErr D n l=0
 ·by_cases b:placeErr D n p=0
  ·cases h3:aH n row with
   | true=>rw [rF a b (Or.inl h3)] at h;omega
   | false =>
    cases h4:aH n col with
    | true=>rw [rF a b (Or.inr h4)] at h;omega
    | false =>
     rw [D1 a b h3 h4] at h;obtain ⟨i,rfl,c⟩:=eL h3;obtain ⟨k,rfl,d⟩:=eL h4;refine ⟨a,b,i,k,rfl,rfl,c,d,fun e=>?_⟩
     subst e
     simp at h
  rw [D2 a b] at h;exact absurd h b
 rw [DZ a] at h;exact absurd h a
theorem D6 {i k:Nat} (d:placeErr D n p=0) (a:i<n) (b:k<n) {r c:Nat} (f:r<(D i).n) (e:c<(D k).n):InO D n ((p.set i (r:Int)).set k (c:Int)):=fI (fI (iw d) a (by omega) (by omega)) b (by omega) (by omega)
end
def iQ (w:World) (R K:List Int) (Z:List (List (Int×Int))) (E:Int) (e:Ending) (w':World):Prop:=(∃ Ar cr Ac cc Ag cg zz,e=.returned (.tuple #[.agg #[.slice Ar R.length cr,.slice Ac K.length cc,.slice Ag zz.length cg],errV E])∧aO w' Ar cr R∧aO w' Ac cc K∧eQ w' Ag cg zz∧lZ zz=Z)∧Bl w w'
theorem qz {w w':World} {E:Int} (b:E≠0) (a:Bl w w'):iQ w [] [] [] E (.returned (.tuple #[.agg #[.slice none 0 0,.slice none 0 0,.slice none 0 0],.iface 68 (.int .i64 E)])) w' :=
 ⟨⟨none,0,none,0,none,0,[],by rw [aj b];rfl,aO.nil _ _ _,aO.nil _ _ _,eQ.nil _ _ _ (by omega),rfl⟩,a⟩
def D3 (w:World) (A0:Option Addr) (n cap:Nat) (row col:Int):World:=(((w.alloc (.cells #[.slice A0 n cap] 24)).alloc (.cells #[.int .i64 row] 3)).alloc (.cells #[.int .i64 col] 3)).alloc (.cells #[.slice none 0 0,.slice none 0 0,.slice none 0 0] 30)
theorem D4 (w:World) (A0:Option Addr) (n cap:Nat) (row a:Int):(D3 w A0 n cap row a).heap.size=w.heap.size+4:=by simp [D3]
theorem Bh (w:World) (A0:Option Addr) (n cap:Nat) (row a:Int):Bl w (D3 w A0 n cap row a):=by unfold D3;go_grown
theorem Ie (w:World) (A0:Option Addr) (n cap:Nat) (row a:Int):(D3 w A0 n cap row a).cell? ⟨w.heap.size,0,none⟩=some (.slice A0 n cap)∧(D3 w A0 n cap row a).cell? ⟨w.heap.size+1,0,none⟩=some (.int .i64 row)∧(D3 w A0 n cap row a).cell? ⟨w.heap.size+2,0,none⟩=some (.int .i64 a)∧(D3 w A0 n cap row a).heap[w.heap.size+3]?=some (.cells #[.slice none 0 0,.slice none 0 0,.slice none 0 0] 30 (0,0)):=by
 unfold D3;obtain ⟨w1,e⟩:=ax (w.alloc (.cells #[.slice A0 n cap] 24));have l:w1.heap[w.heap.size]?=some (.cells #[.slice A0 n cap] 24 (0,0)):=by rw [←e];exact heap_alloc_new ..
 have j:w1.heap.size=w.heap.size+1:=by rw [←e];simp
 rw [e];obtain ⟨w2,c⟩:=ax (w1.alloc (.cells #[.int .i64 row] 3));have m:w2.heap[w.heap.size+1]?=some (.cells #[.int .i64 row] 3 (0,0)):=by rw [←c,←j];exact heap_alloc_new ..
 have q:∀ b,b<w.heap.size+1→w2.heap[b]?=w1.heap[b]?:=fun b h=>by rw [←c];exact Below.heap_alloc _ _ _ (by omega)
 have k:w2.heap.size=w.heap.size+2:=by rw [←c];simp [j]
 rw [c];obtain ⟨w3,d⟩:=ax (w2.alloc (.cells #[.int .i64 a] 3));have o:w3.heap[w.heap.size+2]?=some (.cells #[.int .i64 a] 3 (0,0)):=by rw [←d,←k];exact heap_alloc_new ..
 have i:∀ b,b<w.heap.size+2→w3.heap[b]?=w2.heap[b]?:=fun b h=>by rw [←d];exact Below.heap_alloc _ _ _ (by omega)
 have r:w3.heap.size=w.heap.size+3:=by rw [←d];simp [k]
 rw [d];obtain ⟨w4,f⟩:=ax (w3.alloc (.cells #[.slice none 0 0,.slice none 0 0,.slice none 0 0] 30));have p:w4.heap[w.heap.size+3]?=some (.cells #[.slice none 0 0,.slice none 0 0,.slice none 0 0] 30 (0,0)):=by rw [←f,←r];exact heap_alloc_new ..
 have g:∀ b,b<w.heap.size+3→w4.heap[b]?=w3.heap[b]?:=fun b h=>by rw [←f];exact Below.heap_alloc _ _ _ (by omega)
 rw [f];exact ⟨(Lib.cell_of_heap ((g _ (by omega)).trans ((i _ (by omega)).trans ((q _ (by omega)).trans l))) 0).trans rfl,(Lib.cell_of_heap ((g _ (by omega)).trans ((i _ (by omega)).trans m)) 0).trans rfl,(Lib.cell_of_heap ((g _ (by omega)).trans o) 0).trans rfl,p⟩
theorem yi (p:Int→Bool) (a b:Int):[a,b].any p=(p a || p b):=by simp
theorem Az (A0:Option Addr) (cap n:Nat) (D:Nat→Dm) (A:Nat→Option Addr) (C:Nat→Nat) (AE:Option Addr) (ce:Nat) (xs:List EnL) (Ap:Option Addr) (cp:Nat) (p:List Int) (row d:Int) (w:World) (hM:bd w A0 cap n D A C) (hEn:ii w AE ce xs) (hP:aO w Ap cp p) :
  Calls Tryz.prog 9 #[.agg #[.slice A0 n cap],.slice AE xs.length ce,.slice Ap p.length cp,.int .i64 row,.int .i64 d] w (iQ w (Bf D n (lE xs) p row d) (Be D n (lE xs) p row d) (yQ D n (lE xs) p row d) (kF D n (lE xs) p row d)):=by
 have Y:=Bh w A0 n cap row d;have hS:=D4 w A0 n cap row d;obtain ⟨k0,k1,k2,k3⟩:=Ie w A0 n cap row d;obtain ⟨W,hW⟩:∃ W,D3 w A0 n cap row d=W:=⟨_,rfl⟩;rw [hW] at Y hS k0 k1 k2 k3;unfold D3 at hW;have o:=C6 A0 cap n D A C AE ce xs W (hM.later Y) (hEn.later Y);have S:=aa Y;have HM:=aa hM;have HP:=aa hP;have HS:=aa hS;have P:Hid (∀ w',Bl W w'→w'.cell? ⟨w.heap.size,0,none⟩=some (.slice A0 n cap)∧w'.cell? ⟨w.heap.size+1,0,none⟩=some (.int .i64 row)∧w'.cell? ⟨w.heap.size+2,0,none⟩=some (.int .i64 d)∧w'.heap[w.heap.size+3]?=some (.cells #[.slice none 0 0,.slice none 0 0,.slice none 0 0] 30 (0,0))∧w.heap.size+3<w'.heap.size):=fun w' h=>⟨(h.cell (p:=⟨w.heap.size,0,none⟩) (by simp only;omega)).trans k0,(h.cell (p:=⟨w.heap.size+1,0,none⟩) (by simp only;omega)).trans k1,(h.cell (p:=⟨w.heap.size+2,0,none⟩) (by simp only;omega)).trans k2,(h.block _ (by omega)).trans k3,by have:=h.size;omega⟩
 obtain ⟨V,hV⟩:∃ V,caL D n (lE xs)=V:=⟨_,rfl⟩;have HV:=aa hV;rw [hV] at o;obtain ⟨N,hN⟩:∃ N,V.length=N:=⟨_,rfl⟩;have HN:=aa hN;rw [hN] at o;generalize xs.length=xl at o;obtain ⟨ll,hll⟩:∃ ll,lE xs=ll:=⟨_,rfl⟩;rw [hll] at o HV ⊢;have f:Hid (∀ (u:World) (E:Int),Bl W u→kF D n ll p row d=E→E≠0→(u.cell? ⟨w.heap.size+3,0,none⟩=some (.slice none 0 0)∧u.cell? ⟨w.heap.size+3,1,none⟩=some (.slice none 0 0)∧u.cell? ⟨w.heap.size+3,2,none⟩=some (.slice none 0 0)∧u.frozen? ⟨w.heap.size+3,0,none⟩=false∧u.frozen? ⟨w.heap.size+3,1,none⟩=false∧u.frozen? ⟨w.heap.size+3,2,none⟩=false)∧w.heap.size+3<u.heap.size∧∃ U,((u.setCell ⟨w.heap.size+3,0,none⟩ (.slice none 0 0)).setCell ⟨w.heap.size+3,1,none⟩ (.slice none 0 0)).setCell ⟨w.heap.size+3,2,none⟩ (.slice none 0 0)=U∧U.cell? ⟨w.heap.size+3,0,none⟩=some (.slice none 0 0)∧U.cell? ⟨w.heap.size+3,1,none⟩=some (.slice none 0 0)∧U.cell? ⟨w.heap.size+3,2,none⟩=some (.slice none 0 0)∧Hid (iQ w (Bf D n ll p row d) (Be D n ll p row d) (yQ D n ll p row d) (kF D n ll p row d) (.returned (.tuple #[.agg #[.slice none 0 0,.slice none 0 0,.slice none 0 0],.iface 68 (.int .i64 E)])) U)):=fun u E hu B M=>by
  obtain ⟨-,-,-,d3,d4⟩:=P.out u hu;obtain ⟨t0,t1,t2,-,-,-⟩:=de (mP (a:=.slice none 0 0) (b:=.slice none 0 0) (c:=.slice none 0 0) d3);refine ⟨de d3,d4,_,rfl,t0,t1,t2,?_⟩;unfold Bf Be yQ;rw [B,if_neg M,if_neg M,if_neg M];exact qz M (jf (ae S.out hu) (by omega))
 obtain ⟨pl,hpl⟩:∃ pl,p.length=pl:=⟨_,rfl⟩;have HPl:=aa hpl;rw [hpl];clear hM hEn hP Y hS k1 k2 k3 hV hN hll hpl
 go_enter Tryz.func9,Tryz.ntmps9
 go_wp2_with fail;refine o.mono ?_;rintro e w1 ⟨⟨AV,cV,B,hCv⟩,hb1⟩;obtain ⟨y,hy⟩:∃ y,w1.alloc (.cells #[.slice AV N cV] 33)=y:=⟨_,rfl⟩;have hBy:Bl w1 y:=by rw [←hy];go_grown
 have hyb:y.heap[w1.heap.size]?=some (.cells #[.slice AV N cV] 33 (0,0)):=by rw [←hy];exact heap_alloc_new ..
 have I:=ae hb1 hBy
 by_cases M:cuErr D n ll=0
 case neg =>
  rw [aj M] at B;subst B;obtain ⟨⟨s0,s1,s2,g0,g1,g2⟩,sz,U,hU,t0,t1,t2,HF⟩:=f.out y _ I (DZ M) M;generalize cuErr D n ll=E at HF;clear hb1 hBy hyb I o hCv M P f;go_wp2_with fail;exact bodyPost_ret (v:=.tuple #[.agg #[.slice none 0 0,.slice none 0 0,.slice none 0 0],.iface 68 (.int .i64 E)]) (by simp [results,Tryz.results9,go_sem,t0,t1,t2]) rfl HF.out
 rw [M,errV_zero] at B;subst B;have hNp:N=prodN D n:=by rw [←HN.out,←HV.out];exact rp M
 obtain ⟨hru,-⟩:=Di M;obtain ⟨hal,-⟩:=kT hru;obtain ⟨hn1,hn4,hp3,hd⟩:=aw hal;have HD:=aa hd;have HP3:=aa hp3;have HCu:=aa M;have hpc:=kj A0 cap n D A C Ap cp p y (HM.out.later (ae S.out I)) (HP.out.later (ae S.out I));obtain ⟨d0,d1,d2,d3,d4⟩:=P.out y I;have HWy:=aa I;have HCv:=aa (hCv.later hBy);have HVb:Hid (y.cell? ⟨w1.heap.size,0,none⟩=some (.slice AV N cV)∧w1.heap.size<y.heap.size):=⟨(Lib.cell_of_heap hyb 0).trans rfl,(Array.getElem?_eq_some_iff.1 hyb).1⟩;have HNp:=aa hNp;have hw1:w.heap.size+3<w1.heap.size:=(P.out w1 hb1).2.2.2.2;rw [HPl.out] at hpc;clear hb1 hBy hyb I o hCv M d3 hru hal hNp d1 d2 hd hp3;go_wp2_with fail;refine hpc.mono ?_;rintro e w2 ⟨B,hb2⟩;have x:=ae HWy.out hb2;have HW2:=aa x
 by_cases G:placeErr D n p=0
 case neg =>
  rw [aj G] at B;subst B;obtain ⟨⟨s0,s1,s2,g0,g1,g2⟩,sz,U,hU,t0,t1,t2,HF⟩:=f.out w2 _ x (D2 HCu.out G) G;generalize placeErr D n p=E at HF;clear hb2 x hpc P f G;go_wp2_with fail;exact bodyPost_ret (v:=.tuple #[.agg #[.slice none 0 0,.slice none 0 0,.slice none 0 0],.iface 68 (.int .i64 E)]) (by simp [results,Tryz.results9,go_sem,t0,t1,t2]) rfl HF.out
 rw [G,errV_zero] at B;subst B;have HPE:=aa G;obtain ⟨f0,f1,f2,-,f4⟩:=P.out w2 x;obtain ⟨y2,hy2⟩:∃ y2,w2.alloc (.cells #[.int .i64 row,.int .i64 d] 3)=y2:=⟨_,rfl⟩;have t:Bl w2 y2:=by rw [←hy2];go_grown
 have hyb2:y2.heap[w2.heap.size]?=some (.cells #[.int .i64 row,.int .i64 d] 3 (0,0)):=by rw [←hy2];exact heap_alloc_new ..
 have hPb:PB y2 w2.heap.size [row,d]:=⟨_,hyb2,fun j hj=>by
  match j,hj with
  | 0,_=>rfl
  | 1,_=>rfl⟩
 have O:=ge (some ⟨w2.heap.size,0,none⟩) 2 [row,d] n y2 (by simp) (hPb.pl (by simp))
 rw [yi] at O;simp only [List.length_cons,List.length_nil,Nat.zero_add,Nat.reduceAdd] at O;have J:Hid (y2.cell? ⟨w1.heap.size,0,none⟩=some (.slice AV N cV)∧w1.heap.size<y2.heap.size):=by
  have h:=ae hb2 t;exact ⟨(h.cell (p:=⟨w1.heap.size,0,none⟩) HVb.out.2).trans HVb.out.1,Nat.lt_of_lt_of_le HVb.out.2 h.size⟩
 have HCv2:=aa (HCv.out.later (ae hb2 t));have HWy2:=aa (ae x t);have q0:=(P.out y2 (ae x t)).1;have hq0:w.heap.size<y2.heap.size:=by have:=(P.out y2 (ae x t)).2.2.2.2;omega
 clear hb2 x hpc G t hyb2 hPb HCv HVb d0 d4 HWy;go_wp2_with fail;refine O.mono ?_;rintro e w3 ⟨B,hb3⟩;have H:=ae HWy2.out hb3;have HCv3:=aa (HCv2.out.later hb3);have X:Hid (w3.cell? ⟨w1.heap.size,0,none⟩=some (.slice AV N cV)∧w1.heap.size<w3.heap.size):=⟨(hb3.cell (p:=⟨w1.heap.size,0,none⟩) J.out.2).trans J.out.1,Nat.lt_of_lt_of_le J.out.2 hb3.size⟩;have HW3:=aa H;clear hb3 O HCv2 J HWy2 q0 hq0 f0 f1 f2 f4 hy2 hy;cases hob:(aH n row || aH n d) with
 | true =>
  rw [hob] at B;subst B;obtain ⟨⟨s0,s1,s2,g0,g1,g2⟩,sz,U,hU,t0,t1,t2,HF⟩:=f.out w3 _ H (rF HCu.out HPE.out (by simpa using hob)) (by omega)
  clear H P f hob;go_wp2_with fail;exact bodyPost_ret (v:=.tuple #[.agg #[.slice none 0 0,.slice none 0 0,.slice none 0 0],.iface 68 (.int .i64 1)]) (by simp [results,Tryz.results9,go_sem,t0,t1,t2]) rfl HF.out
 | false =>
  rw [hob] at B;subst B;obtain ⟨ho1,ho2⟩:aH n row=false∧aH n d=false:=by simpa using hob
  have HMe:=aa (D1 (l:=ll) (p:=p) HCu.out HPE.out ho1 ho2);obtain ⟨i,s,hi⟩:=eL ho1;obtain ⟨k,q,Q⟩:=eL ho2;obtain ⟨f0,f1,f2,-,f4⟩:=P.out w3 H;clear hob ho1 ho2
  by_cases hik:i=k
  ·have hrc:(row == d)=true:=by rw [s,q,hik];simp
   obtain ⟨⟨s0,s1,s2,g0,g1,g2⟩,sz,U,hU,t0,t1,t2,HF⟩:=f.out w3 3 H (HMe.out.trans (if_pos (by rw [s,q,hik]))) (by omega)
   clear H P f s q;go_wp2_with fail;exact bodyPost_ret (v:=.tuple #[.agg #[.slice none 0 0,.slice none 0 0,.slice none 0 0],.iface 68 (.int .i64 3)]) (by simp [results,Tryz.results9,go_sem,t0,t1,t2]) rfl HF.out
  ·have hrc:(row == d)=false:=by rw [s,q];simpa using fun e=>hik (by omega)
   have HM0:Hid (kF D n ll p row d=0):=HMe.out.trans (if_neg (by rw [s,q];omega))
   have HF0:Hid (∀ r c:Nat,Gc D n ll p row d r c=V.getD (numI D ((p.set i (r:Int)).set k (c:Int)) n).toNat noC):=fun r c=>by unfold Gc;rw [HV.out,s,q];simp
   have HRw:Hid (Bf D n ll p row d=eP (D i).n∧Be D n ll p row d=eP (D k).n∧yQ D n ll p row d=ss (Gc D n ll p row d) (D i).n (D k).n):=by
    show _∧_∧_
    unfold Bf Be yQ;rw [if_pos HM0.out,if_pos HM0.out,if_pos HM0.out,s,q]
    simp
   have K:=ae S.out H;obtain ⟨hcap,h0 | ⟨b0,o0,rfl,hDs⟩⟩:=HM.out.later K
   ·omega
   obtain ⟨-,-,e1,-⟩:=hDs.2 i hi;obtain ⟨-,-,e2,-⟩:=hDs.2 k Q;have hbl:=hDs.1;obtain ⟨-,hn1'⟩:=HD.out i hi;obtain ⟨-,hn2'⟩:=HD.out k Q;have HIn:Hid (∀ r c:Nat,r<(D i).n→c<(D k).n→InO D n ((p.set i (r:Int)).set k (c:Int))):=fun r c hr hc=>D6 HPE.out hi Q hr hc
   have HDr:Hid (bd w3 (some ⟨b0,o0,none⟩) cap n D A C):=HM.out.later K;have HP3':Hid (aO w3 Ap cp p):=HP.out.later K;rw [s] at f1;rw [q] at f2;generalize (D i).n=m1 at e1 hn1' HIn HRw;generalize (D k).n=m2 at e2 hn2' HIn HRw;generalize A i=A1 at e1;generalize A k=A2 at e2;generalize C i=C1 at e1;generalize C k=C2 at e2;have HKw:Hid (∀ w',Bl w3 w'→Bl w3 w'∧w'.cell? ⟨w.heap.size,0,none⟩=some (.slice (some ⟨b0,o0,none⟩) n cap)∧w'.cell? ⟨w.heap.size+1,0,none⟩=some (.int .i64 (i:Int))∧w'.cell? ⟨w.heap.size+1+1,0,none⟩=some (.int .i64 (k:Int))∧w'.cell? ⟨b0,o0+i*3+2,none⟩=some (.slice A1 m1 C1)∧w'.cell? ⟨b0,o0+k*3+2,none⟩=some (.slice A2 m2 C2)):=fun w' h=>⟨h,(h.cell (p:=⟨w.heap.size,0,none⟩) (by simp only;omega)).trans f0,(h.cell (p:=⟨w.heap.size+1,0,none⟩) (by simp only;omega)).trans f1,(h.cell (p:=⟨w.heap.size+2,0,none⟩) (by simp only;omega)).trans f2,(h.cell (p:=⟨b0,o0+i*3+2,none⟩) hbl).trans e1,(h.cell (p:=⟨b0,o0+k*3+2,none⟩) hbl).trans e2⟩
   have hiI:(i:Int)<(n:Int):=by omega
   have hkI:(k:Int)<(n:Int):=by omega
   have hrcI:((i:Int) == (k:Int))=false:=by simpa using fun e=>hik (by omega)
   have HRC:Hid (row=(i:Int)∧d=(k:Int)):=⟨s,q⟩;have hc3:(n:Int)≤(cap:Int):=by omega
   clear s q hDs K hrc;go_wp2_with fail
   go_cut [15,16] from 19 (fun s15 s16 wx => ∃ g1 g2,s15=.slice (some ⟨g1,0,none⟩) m1 m1∧s16=.slice (some ⟨g2,0,none⟩) m2 m2∧cd wx g1 (eP m1)∧cd wx g2 (eP m2)∧Bl w3 wx)
   case first =>
    go_region_held3 (fun w'=>Bl w3 w'∧w'.cell? ⟨w.heap.size,0,none⟩=some (.slice (some ⟨b0,o0,none⟩) n cap)∧w'.cell? ⟨w.heap.size+1,0,none⟩=some (.int .i64 (i:Int))∧w'.cell? ⟨w.heap.size+1+1,0,none⟩=some (.int .i64 (k:Int))∧w'.cell? ⟨b0,o0+i*3+2,none⟩=some (.slice A1 m1 C1)∧w'.cell? ⟨b0,o0+k*3+2,none⟩=some (.slice A2 m2 C2))
     ((refine HKw.out _ ?_;go_grown;done))
     (first | (go_at_call 27;refine (tn _ _ _ _ (by first | exact hn1' | exact hn2')).mono ?_;rintro e w4 ⟨rfl,hI4,hb4⟩;have hB4:=ae (W0:=w3) (by go_grown) hb4;have hy4:=hB4.size;first | (have HI1:Hid (cd _ _ (eP m1)):=hI4;have HX1:=aa hb4) | (have HI2:Hid (cd _ _ (eP m2)):=hI4;have HX2:=aa hb4);clear hI4 hb4))
    all_goals go_wp2_with fail
    all_goals go_meet
    all_goals (have h4:=HX1.out;have h5:=HX2.out;exact ⟨_,_,rfl,rfl,HI1.out.later (by go_grown),HI2.out.later (by go_grown),by go_grown⟩)
   case rest =>
   obtain ⟨g1,g2,rfl,rfl,hI1,hI2,F⟩:=hcut;obtain ⟨w4,rfl⟩:∃ w4:World,w4=wc:=⟨_,rfl⟩;have HI1:=aa hI1;have HI2:=aa hI2;have HW4:=aa (ae HW3.out F);have hpn:p.length=n:=(iw HPE.out).len;have hcl:=zG Ap cp p w4 (by omega) (HP3'.out.later F)
   obtain ⟨-,x0,x1,x2,-,-⟩:=HKw.out w4 F;have HX:Hid (w4.cell? ⟨w.heap.size,0,none⟩=some (.slice (some ⟨b0,o0,none⟩) n cap)∧w4.cell? ⟨w.heap.size+1,0,none⟩=some (.int .i64 (i:Int))∧w4.cell? ⟨w.heap.size+1+1,0,none⟩=some (.int .i64 (k:Int))∧w4.cell? ⟨w1.heap.size,0,none⟩=some (.slice AV (prodN D n) cV)):=⟨x0,x1,x2,by rw [←HNp.out];exact (F.cell (p:=⟨w1.heap.size,0,none⟩) X.out.2).trans X.out.1⟩
   have HD4:=aa (HDr.out.later F);have HV4:=aa (HCv3.out.later F);have T:=aa hpn;rw [HPl.out] at hcl;clear hI1 hI2 F x0 x1 x2 HKw HDr HP3' HCv3 X hpn e1 e2 f0 f1 f2;go_wp2_with fail;refine hcl.mono ?_;rintro e w5 ⟨⟨v,rfl,hO⟩,hb5⟩;rw [←HPl.out] at hO;obtain ⟨gP,cP,rfl,hgP,hcP,hPB⟩:=Ii hO (by rw [T.out];omega)
   obtain ⟨R,hy5⟩:∃ R,w5.alloc (.cells #[.slice (some ⟨gP,0,none⟩) p.length cP] 27)=R:=⟨_,rfl⟩;have Lu:Bl w5 R:=by rw [←hy5];go_grown
   have hyb5:R.heap[w5.heap.size]?=some (.cells #[.slice (some ⟨gP,0,none⟩) p.length cP] 27 (0,0)):=by rw [←hy5];exact heap_alloc_new ..
   have Z:=ae hb5 Lu;have hs5:w5.heap.size<R.heap.size:=(Array.getElem?_eq_some_iff.1 hyb5).1;have hg5:=hPB.lt;have hMk:IU w4 w5.heap.size gP n cP i k p R:=⟨Z,by rw [←T.out];exact (Lib.cell_of_heap hyb5 0).trans rfl,p,T.out,fun _ _ _=>rfl,hPB.same (Lu.block _ hg5)⟩
   have htab:=qU 30 #[.pointer (some ⟨w5.heap.size,0,none⟩),.pointer (some ⟨w.heap.size+1,0,none⟩),.pointer (some ⟨w.heap.size+1+1,0,none⟩),.pointer (some ⟨w.heap.size,0,none⟩),.pointer (some ⟨w1.heap.size,0,none⟩)] (Gc D n ll p row d) (IU w4 w5.heap.size gP n cP i k p) (fun b=>b=gP) m1 m2 R (by omega) (by omega) Id (fun b hb=>by omega) hMk
    (fun w' w'' ⟨hb,hc,L',h1,h2,h3⟩ Q=>⟨⟨Q.os.trans hb.os,Q.tape.trans hb.tape,Q.output.trans hb.output,Nat.le_trans hb.size Q.size,fun b hbb=>(Q.block b (Nat.lt_of_lt_of_le hbb Z.size) id).trans (hb.block b hbb)⟩,(World.cell?_of_block (a:=⟨w5.heap.size,0,none⟩) (Q.block _ hs5 id)).trans hc,L',h1,h2,h3.same (Q.block _ (by omega) id)⟩)
    (fun r c w' hr hc hInv _=>by
     rw [HF0.out r c];exact Gb w5.heap.size (w.heap.size+1) (w.heap.size+1+1) w.heap.size w1.heap.size gP cP (some ⟨b0,o0,none⟩) cap n D A C AV cV V p i k r c w4 w' (HIn.out r c hr hc) (HN.out.trans HNp.out) T.out hi Q (by rw [←T.out];exact hcP) hgP (by omega) HD4.out HV4.out HX.out.2.1 HX.out.2.2.1 HX.out.1 HX.out.2.2.2 hInv)
   clear hMk hPB hO Lu hyb5 hcl;rw [HPl.out] at hy5 ⊢;go_wp2_with fail;refine htab.mono ?_;rintro e w6 ⟨⟨zz,rfl,hzl,hZ,hlz⟩,⟨Lt,-⟩,-⟩;have hW6:=ae HW4.out Lt;obtain ⟨-,-,-,d3,d4⟩:=P.out w6 hW6;obtain ⟨s0,s1,s2,j0,j1,j2⟩:=de d3;obtain ⟨t0,t1,t2,-,-,-⟩:=de (mP (a:=.slice (some ⟨g1,0,none⟩) m1 m1) (b:=.slice (some ⟨g2,0,none⟩) m2 m2) (c:=.slice (some ⟨R.heap.size,0,none⟩) m1 m1) d3);obtain ⟨U,hU⟩:∃ U,((w6.setCell ⟨w.heap.size+3,0,none⟩ (.slice (some ⟨g1,0,none⟩) m1 m1)).setCell ⟨w.heap.size+3,1,none⟩ (.slice (some ⟨g2,0,none⟩) m2 m2)).setCell ⟨w.heap.size+3,2,none⟩ (.slice (some ⟨R.heap.size,0,none⟩) m1 m1)=U:=⟨_,rfl⟩;have HEnd:Hid (iQ w (Bf D n ll p row d) (Be D n ll p row d) (yQ D n ll p row d) (kF D n ll p row d) (.returned (.tuple #[.agg #[.slice (some ⟨g1,0,none⟩) m1 m1,.slice (some ⟨g2,0,none⟩) m2 m2,.slice (some ⟨R.heap.size,0,none⟩) m1 m1],.nilIface])) U):=by
    obtain ⟨hr1,hr2,hr3⟩:=HRw.out
    show iQ ..
    rw [hr1,hr2,hr3,HM0.out,←hU];have hgt:∀ (u v z:Value) (b:Nat),b≠w.heap.size+3→(((w6.setCell ⟨w.heap.size+3,0,none⟩ u).setCell ⟨w.heap.size+3,1,none⟩ v).setCell ⟨w.heap.size+3,2,none⟩ z).heap[b]?=w6.heap[b]?:=fun u v z b hb=>((ao _ _ _ _ _ hb).trans (ao _ _ _ _ _ hb)).trans (ao _ _ _ _ _ hb)
    have hne:∀ {g:Nat} {L:List Int},cd w6 g L→g≠w.heap.size+3:=fun h e=>by
     unfold cd at h;rw [e,d3] at h
     simp at h
    have hpl1:∀ {g m:Nat},cd w4 g (eP m)→∀ (u v z:Value),aO (((w6.setCell ⟨w.heap.size+3,0,none⟩ u).setCell ⟨w.heap.size+3,1,none⟩ v).setCell ⟨w.heap.size+3,2,none⟩ z) (some ⟨g,0,none⟩) m (eP m):=fun {g m} h u v z=>by
     have h6:=h.later Lt;have h7:=cd.pl (show cd _ g (eP m) from (hgt u v z g (hne h6)).trans h6)
     rw [risL_len] at h7;exact h7
    refine ⟨⟨some ⟨g1,0,none⟩,m1,some ⟨g2,0,none⟩,m2,some ⟨R.heap.size,0,none⟩,m1,zz,by rw [risL_len,risL_len,hzl];rfl,hpl1 HI1.out _ _ _,hpl1 HI2.out _ _ _,hZ _ (by simp) fun b hb _=>hgt _ _ _ b ?_,hlz⟩,jf (ae S.out hW6) (by omega)⟩
    have h4:=(P.out w4 HW4.out).2.2.2.2;have h5:=Z.size
    omega
   rw [hU] at t0 t1 t2;clear Lt hW6 d3 hZ hlz hzl htab;go_wp2_with fail;exact bodyPost_ret (v:=.tuple #[.agg #[.slice (some ⟨g1,0,none⟩) m1 m1,.slice (some ⟨g2,0,none⟩) m2 m2,.slice (some ⟨R.heap.size,0,none⟩) m1 m1],.nilIface]) (by simp [results,Tryz.results9,go_sem,t0,t1,t2]) rfl HEnd.out
end Go.Proofs.YthlhjjabkgpenaaGreatDoor
