/- What Order and All of -/
import Derived.Test.YtohgnbgamfepoaaGreatDoorJHBL
import Derived.Test.YtohgnbgamfepoaaGreatDoorJHBM
namespace Go.Proofs.YtohgnbgamfepoaaGreatDoor
open ChangeShapes WideShapes ChangeAt RowKit
set_option maxRecDepth 99999
set_option maxHeartbeats 0
theorem EJ (A0:Option Addr) (cap n:Nat) (D:Nat→Dm) (A:Nat→Option Addr) (C:Nat→Nat) (w:World) (s:aW w A0 cap n D A C) :
  Calls Tryz.prog 56 #[.agg #[.slice A0 n cap]] w fun e w'=>(∃ A' f,e=.returned (.tuple #[.slice A' (coL D n).length f,errV (aO D n).2.2])∧aR w' A' f (coL D n))∧Bl w w':=by
 have a:=ao w A0 n cap 24;have F:=aH w A0 n cap 24;obtain ⟨W,B⟩:=az (ax w A0 n cap 24);rw [B] at a F;unfold ax at B;have k:=aa a
 by_cases c:(aO D n).2.2=0
 case neg =>
  have i:=sG A0 cap n D A C W c (s.later a);have l:Hid (coL D n=[]):=by show _=_;unfold coL;rw [if_neg c]
  have m:Hid (errV (aO D n).2.2=.iface 63 (.int .i64 (aO D n).2.2)):=ak c;rw [ak c] at i;generalize (aO D n).2.2=z at i m;clear s a c
  go_enter Tryz.func56,Tryz.ntmps56
  go_wp2_with fail;refine i.mono ?_;rintro e w1 ⟨rfl,b⟩;go_wp2_with fail;go_returns;rw [l.out,m.out];exact ⟨⟨none,0,rfl,aR.nil _ _ _ (by omega)⟩,ae k.out b⟩
 obtain ⟨o,p⟩:=ex c;have i:=nL A0 cap n D A C W o p (s.later a);have l:Hid (coL D n=aB (rowsL D n) (prodN D n)∧(coL D n).length=prodN D n):=by
  have e:coL D n=aB (rowsL D n) (prodN D n):=by unfold coL;rw [if_pos c]
  exact ⟨e,by rw [e];exact ef (fk p o) (fD p o) (prodN D n) (by rw [bN];exact zT)⟩
 have d:Hid (∀ j g X w',cJ w' j g n D X→Calls Tryz.prog 38 #[.pointer (some ⟨j,0,none⟩)] w' fun e w''=>(∃ A' f,e=.returned (.tuple #[.slice A' (coL D n).length f,.nilIface])∧aR w'' A' f (coL D n))∧Bl w' w''):=fun j g X w' h=>by
  have v:=m8 j g n D X w' p o h;rw [←l.out.1,←l.out.2] at v;exact v
 rw [c,errV_zero];generalize coL D n=L at d ⊢;generalize L.length=ll at d ⊢;clear s a c o p l
 go_enter Tryz.func56,Tryz.ntmps56
 go_wp2_with fail;refine i.mono ?_;rintro e w1 ⟨⟨j,g,X,rfl,-,-,y⟩,b⟩;have t:=aa (ae k.out b);have r:=d.out j g X w1 y;clear b i y;go_wp2_with fail;refine r.mono ?_;rintro e w2 ⟨⟨A',f,rfl,x⟩,q⟩;have E:=aa x;have u:=aa (ae t.out q);clear x q r;go_wp2_with fail;go_returns;exact ⟨⟨A',f,rfl,E.out⟩,u.out⟩
def D7 (D:Nat→Dm) (n:Nat) (inp:List Int→Int×Int) (O:List Int) (k:Nat) (L:List (Int×Int)):Prop:=L.length=prodN D n∧∀ j:Nat,j<prodN D n→((j:Int)∈O.take k→L.getD j noC=ez D n inp (aj D n j))∧((j:Int)∉O.take k→L.getD j noC=inp (aj D n j))
theorem mr {w:World} {A:Option Addr} {c g x:Nat} {L:List Int} {f:Array Value} {fr:Nat×Nat} {a b:Value} (h:aR w A c L) (k:w.heap[g]?=some (.cells f 52 fr)):aR ((w.setCell ⟨g,x,none⟩ a).setCell ⟨g,x+1,none⟩ b) A c L:=h.keep fun b' cs j i=>by
 have d:b'≠g:=fun e=>by
  rw [e,k] at i
  simp at i
 rw [ar _ _ _ _ _ d,ar _ _ _ _ _ d]
theorem tR (A0:Option Addr) (cap n:Nat) (D:Nat→Dm) (A:Nat→Option Addr) (C:Nat→Nat) (AE:Option Addr) (ce:Nat) (xs:List EnL) (w:World) (hM:aW w A0 cap n D A C) (I:b7 w AE ce xs) :
  Calls Tryz.prog 19 #[.agg #[.slice A0 n cap],.slice AE xs.length ce] w fun e w'=>(∃ A' c',e=.returned (.tuple #[.slice A' (caL D n (lE xs)).length c',errV (fq D n (lE xs))])∧dx w' A' c' (caL D n (lE xs))∧eX w.heap.size A')∧Bl w w':=by
 have f:=ao w A0 n cap 24;have hS:=av w A0 n cap 24;have hA:=aH w A0 n cap 24;obtain ⟨W,hW⟩:=az (ax w A0 n cap 24);rw [hW] at f hS hA;unfold ax at hW;have v:=aa f;have Y:w.heap.size<W.heap.size:=by omega
 have HA:=aa hA
 by_cases P:(aO D n).2.2=0
 case neg =>
  have hl:=sG A0 cap n D A C W P (hM.later f);have HE:Hid (fq D n (lE xs)=(aO D n).2.2∧caL D n (lE xs)=[]):=by
   have e1:fq D n (lE xs)=(aO D n).2.2:=by unfold fq;rw [if_pos P]
   exact ⟨e1,sm (by rw [e1];exact P)⟩
  have E:Hid (errV (aO D n).2.2=.iface 63 (.int .i64 (aO D n).2.2)):=ak P;rw [ak P] at hl;generalize xs.length=xl;generalize (aO D n).2.2=z at hl HE E;clear hM f P hS I
  go_enter Tryz.func19,Tryz.ntmps19
  go_wp2_with fail;refine hl.mono ?_;rintro e w1 ⟨rfl,c⟩;go_wp2_with fail;go_returns;rw [HE.out.1,HE.out.2,E.out];exact ⟨⟨none,0,rfl,dx.nil _ _ _ (by omega),eX.none _⟩,ae v.out c⟩
 obtain ⟨i,p⟩:=ex P;have hl:=nL A0 cap n D A C W i p (hM.later f);have J:fq D n (lE xs)=entsErr D n (lE xs):=by unfold fq;rw [if_neg (by simpa using P)]
 by_cases he:entsErr D n (lE xs)=0
 case neg =>
  have HE:Hid (fq D n (lE xs)=entsErr D n (lE xs)∧caL D n (lE xs)=[]):=⟨J,sm (by rw [J];exact he)⟩
  have E:Hid (errV (entsErr D n (lE xs))=.iface 63 (.int .i64 (entsErr D n (lE xs)))):=ak he;have d:Hid (∀ w',Bl w w'→Calls Tryz.prog 37 #[.agg #[.slice A0 n cap],.slice AE xs.length ce] w' fun e w''=>(∃ A' c',e=.returned (.tuple #[.slice A' 0 c',.iface 63 (.int .i64 (entsErr D n (lE xs)))]))∧Bl w' w''):=fun w' hB=>xg A0 cap n D A C AE ce xs w' (hM.later hB) (I.later hB) he
  generalize xs.length=xl at d ⊢;generalize entsErr D n (lE xs)=z at HE E d;clear hM f P hS I i p he J
  go_enter Tryz.func19,Tryz.ntmps19
  go_wp2_with fail;refine hl.mono ?_;rintro e w1 ⟨⟨u,g,X,rfl,-,-,-⟩,c⟩;have B:=aa c;have c1:=aC c Y HA.out;have hs1:w.heap.size<w1.heap.size:=zW Y c.size;clear c hl hA hW;go_wp2_with fail;refine (d.out w1 (ae v.out B.out)).mono ?_;rintro e w2 ⟨⟨A2,c2,rfl⟩,t⟩;have HB2:=aa (ae (ae v.out B.out) t);clear t c1;go_wp2_with fail;go_returns;rw [HE.out.1,HE.out.2,E.out];exact ⟨⟨none,0,rfl,dx.nil _ _ _ (by omega),eX.none _⟩,HB2.out⟩
 have hEs:=ss he;have U:fq D n (lE xs)=0:=J.trans he;have d:Hid (∀ w',Bl w w'→Calls Tryz.prog 37 #[.agg #[.slice A0 n cap],.slice AE xs.length ce] w' fun e w''=>(∃ g,e=.returned (.tuple #[.slice (some ⟨g,0,none⟩) (prodN D n) (prodN D n),.nilIface])∧w'.heap.size≤g∧bU w'' g (wrV D n (lE xs)))∧Bl w' w''):=fun w' hB=>xh A0 cap n D A C AE ce xs w' (hM.later hB) (I.later hB) he
 obtain ⟨-,-,hp3,-⟩:=au i;obtain ⟨O,hO⟩:=az (aB (rowsL D n) (prodN D n));have q:Hid (O.length=prodN D n):=by show _=_;rw [←hO];exact ef (fk p i) (fD p i) (prodN D n) (by rw [bN];exact zT)
 have HOr:Hid (∀ u g X w',cJ w' u g n D X→Calls Tryz.prog 38 #[.pointer (some ⟨u,0,none⟩)] w' fun e w''=>(∃ A' c',e=.returned (.tuple #[.slice A' (prodN D n) c',.nilIface])∧aR w'' A' c' O)∧Bl w' w''):=fun u g X w' h=>by
  have M:=m8 u g n D X w' p i h;rw [hO] at M;exact M
 have G:Hid (∀ k L,k<prodN D n→D7 D n (getE (lE xs)) O k L→∃ m:Nat,O.getD k 0=(m:Int)∧m<prodN D n∧(∀ z∈ndsX D n m,b6 (L.getD z.toNat noC))∧qn D n L m=ez D n (getE (lE xs)) (aj D n m)∧D7 D n (getE (lE xs)) O (k+1) (L.set m (ez D n (getE (lE xs)) (aj D n m)))):=fun k L hk a=>by
  obtain ⟨m,h1,M,h3,h4,h5⟩:=ye (fk p i) (fD p i) (k:=k) (by rw [bN];exact hk)
  rw [bN,hO] at h1 h3 h4 h5;rw [bN] at M;have hnds:∀ z∈ndsX D n m,∃ y:Nat,z=(y:Int)∧y<prodN D n∧(y:Int)∈O.take k:=fun z hz=>by
   obtain ⟨y,rfl,hy⟩:=xO p i M z hz;refine ⟨y,rfl,hy,h4 _ ?_⟩;have ht:=iD p i M;rw [lJ M,←lT p i ht,(List.mergeSort_perm _ _).mem_iff];exact hz
  have hL1:∀ z∈ndsX D n m,L.getD z.toNat noC=ez D n (getE (lE xs)) (aj D n z.toNat):=fun z hz=>by
   obtain ⟨y,rfl,hy,hyO⟩:=hnds z hz;rw [Int.toNat_natCast];exact (a.2 y hy).1 hyO
  refine ⟨m,h1,M,fun z hz=>?_,GF p i M (fun _=>(a.2 m M).2 h3) hL1,by rw [List.length_set];exact a.1,fun j hj=>?_⟩
  ·rw [hL1 z hz]
   exact oY p (mn hEs) _ _ (bZ i) (Nat.lt_succ_self _)
  by_cases e:j=m
  ·subst e
   refine ⟨fun _=>?_,fun h=>absurd ?_ h⟩
   ·rw [zZ,List.getElem?_set_self (by rw [a.1];exact hj)]
    rfl
   rw [h5];simp
  have ht:(j:Int)∈O.take (k+1)↔(j:Int)∈O.take k:=by
   rw [h5,List.mem_append,List.mem_singleton];exact ⟨fun h=>h.resolve_right (by omega),Or.inl⟩
  rw [ht,zZ,List.getElem?_set_ne (fun h=>e h.symm),←zZ]
  exact a.2 j hj
 have HTl:Hid (∀ u g X gC L m w',cJ w' u g n D X→bU w' gC L→L.length=prodN D n→m<prodN D n→(∀ z∈ndsX D n m,b6 (L.getD z.toNat noC))→Rt 39 #[.pointer (some ⟨u,0,none⟩),.slice (some ⟨gC,0,none⟩) (prodN D n) (prodN D n),.int .i64 m] w' (.tuple #[.agg #[.int .i64 (qn D n L m).1,.int .i64 (qn D n L m).2],.nilIface])):=fun u g X gC L m w' hP hC l hm V=>rE u g n D X m (some ⟨gC,0,none⟩) (prodN D n) L w' p i hm hP l ⟨by rw [l];exact zT,by omega,Or.inr ⟨gC,0,rfl,hC.celAt⟩⟩ V
 have S:Hid (∀ L,D7 D n (getE (lE xs)) O (prodN D n) L→L=caL D n (lE xs)):=fun L h=>Es U h.1 fun j hj=>(h.2 j hj).1 (by
  rw [List.take_of_length_le (by rw [q.out];exact zT),←hO]
  have hnd:=pA (rowsL D n) (prodN D n);refine Classical.byContradiction fun hn=>?_
  have:=few (prodN D n) ((j:Int) :: aB (rowsL D n) (prodN D n)) (List.nodup_cons.2 ⟨hn,hnd.1⟩) fun x hx=>by
   rcases List.mem_cons.1 hx with rfl | hx
   ·omega
   have:=hnd.2 x hx;rw [bN] at this;exact this
  rw [List.length_cons,hO,q.out] at this
  omega)
 have F:Hid (D7 D n (getE (lE xs)) O 0 (wrV D n (lE xs))):=⟨nT ..,fun j hj=>⟨fun h=>by simp at h,fun _=>Ki hEs hj⟩⟩
 have Q:Hid ((caL D n (lE xs)).length=prodN D n):=gO U;rw [U,errV_zero,Q.out];generalize caL D n (lE xs)=CA at S Q ⊢;generalize getE (lE xs)=inp at G S F;generalize wrV D n (lE xs)=W0 at d F;generalize xs.length=xl at d ⊢;obtain ⟨N,hN⟩:=az (prodN D n);have HN:=aa hN;rw [hN] at d q HOr G HTl S hp3 Q ⊢;have hNI:(N:Int)≤3000:=by omega
 clear hM f P hS I i p he J hEs U hO hN
 go_enter Tryz.func19,Tryz.ntmps19
 go_wp2_with fail;refine hl.mono ?_;rintro e w1 ⟨⟨u,g,X,rfl,-,-,hP1⟩,c⟩;have HP1:=aa hP1;have B:=aa c;have c1:=aC c Y HA.out;have hs1:w.heap.size<w1.heap.size:=zW Y c.size;clear c hl hA hW hP1;go_wp2_with fail;refine (d.out w1 (ae v.out B.out)).mono ?_;rintro e w2 ⟨⟨gC,rfl,hgC,hC2⟩,t⟩;have HB2:=aa t;have HC2:=aa hC2;have hor:=HOr.out u g X w2 (HP1.out.later t);clear t c1 hC2;go_wp2_with fail;refine hor.mono ?_;rintro e w3 ⟨⟨A3,c3,rfl,hI3⟩,hb3⟩;have HB3:=aa (ae HB2.out hb3);have HC3:=aa (HC2.out.later hb3);have HI3:=aa hI3;clear hb3 hor hI3;go_wp2_with fail
 go_loopg [7,39] N (fun gg s7 s39 wr => ∃ (k:Nat),k≤N∧gg=N-k∧s39=.int .i64 k∧s7=.nilIface∧Hid (∃ L,bU wr gC L∧D7 D n inp O k L)∧Hid (aR wr A3 c3 O)∧Hid (Bl w1 wr))
 case atStart=>exact ⟨0,zU,rfl,rfl,rfl,aa ⟨W0,HC3.out,F.out⟩,HI3,HB3⟩
 case round =>
  obtain ⟨k,hk,rfl,rfl,rfl,HL,HI,HBw⟩:=hrel
  by_cases hlt:k<N
  ·have hki:(k:Int)<(N:Int):=by omega
   obtain ⟨L,s,a⟩:=HL.out;obtain ⟨m,hm,hmN,V,htl,H⟩:=G.out k L hlt a;have l:L.length=N:=by rw [←HN.out];exact a.1
   have K:=HTl.out u g X gC L m wr (HP1.out.later HBw.out) s l hmN V;rw [htl] at K;obtain ⟨⟨ra,rb⟩,hRe⟩:∃ R,ez D n inp (aj D n m)=R:=⟨_,rfl⟩;rw [hRe] at K H;simp only at K;obtain ⟨hcS,-,hS0 | ⟨bs,cs,fr,rfl,hbS,hcl⟩⟩:=HI.out
   ·have:=q.out;rw [hS0] at this;simp at this;omega
   have cx:=hcl k (by rw [q.out];exact hlt)
   have hbs:bs<wr.heap.size:=(zY hbS).1;rw [q.out] at hcS;rw [hm] at cx;have hcSI:(N:Int)≤(c3:Int):=by omega
   have hmI:(m:Int)<(N:Int):=by omega
   have HCL:=aa s;have HAS2:=aa H;have HLl:=aa l;clear hcl hbS hm V htl hRe a H s;go_wp2_with fail;refine K.mono ?_;rintro e w5 ⟨rfl,T⟩;have r:=HCL.out.later T;obtain ⟨r0,r1⟩:=r.at (k:=m) (by rw [HLl.out];exact hmN)
   have f0:=r.frozen (m*2);have f1:=r.frozen (m*2+1);have hgl:=r.lt;have HC5:Hid (bU ((w5.setCell ⟨gC,m*2,none⟩ (.int .i64 ra)).setCell ⟨gC,m*2+1,none⟩ (.int .i64 rb)) gC (L.set m (ra,rb))):=r.set (by rw [HLl.out];exact hmN) ra rb
   obtain ⟨cur,Z,-⟩:=r;have HI5:Hid (aR ((w5.setCell ⟨gC,m*2,none⟩ (.int .i64 ra)).setCell ⟨gC,m*2+1,none⟩ (.int .i64 rb)) (some ⟨bs,0,none⟩) c3 O):=mr (HI.out.later T) Z;have HB5:Hid (Bl w1 ((w5.setCell ⟨gC,m*2,none⟩ (.int .i64 ra)).setCell ⟨gC,m*2+1,none⟩ (.int .i64 rb))):=((ae HBw.out T).setCell hgC _).setCell hgC _;clear T K Z;go_wp2_with fail
   go_roundg (N-(k+1))
   case measure=>omega
   case rel=>exact ⟨k+1,by omega,rfl,by go_num,rfl,aa ⟨_,HC5.out,HAS2.out⟩,HI5,HB5⟩
  have hke:k=N:=by omega
  subst hke;have HgC:Hid (eX w.heap.size (some ⟨gC,0,none⟩)):=fun b o e=>by cases e;exact zV (Nat.le_of_lt hs1) hgC
  have HF:Hid (dx wr (some ⟨gC,0,none⟩) k CA):=by
   obtain ⟨L,s,a⟩:=HL.out;have hLe:=S.out L a;have l:=Q.out;rw [hLe] at s;exact ⟨by rw [l];exact zT,by omega,Or.inr ⟨gC,0,rfl,s.celAt⟩⟩
  go_wp2_with fail;go_returns;exact ⟨⟨_,_,rfl,HF.out,HgC.out⟩,ae v.out (ae B.out HBw.out)⟩
theorem Et (A0:Option Addr) (cap n:Nat) (D:Nat→Dm) (A:Nat→Option Addr) (C:Nat→Nat) (AE:Option Addr) (b:Nat) (xs:List EnL) (w:World) (h:aW w A0 cap n D A C) (c:b7 w AE b xs) :
  Calls Tryz.prog 19 #[.agg #[.slice A0 n cap],.slice AE xs.length b] w fun e w'=>(∃ A' a,e=.returned (.tuple #[.slice A' (caL D n (lE xs)).length a,errV (fq D n (lE xs))])∧dx w' A' a (caL D n (lE xs)))∧Bl w w' :=
 (tR A0 cap n D A C AE b xs w h c).mono fun _ _ ⟨⟨A',a,d,f,_⟩,g⟩=>⟨⟨A',a,d,f⟩,g⟩
def Kh (x:Ed):Int×Int:=if x.clear=true then (0,0) else eG x.n
def wrE (D:Nat→Dm) (n:Nat) (L:List (Int×Int)) (x:Ed):List (Int×Int):=L.set (numI D x.pl n).toNat (Kh x)
def wrTo (D:Nat→Dm) (n:Nat) (L:List (Int×Int)) (Y:List Ed) (k:Nat):List (Int×Int):=(Y.take k).foldl (wrE D n) L
theorem mQ (D:Nat→Dm) (n:Nat) (L:List (Int×Int)) (Y:List Ed) {k:Nat} (a:k<Y.length):wrTo D n L Y (k+1)=wrE D n (wrTo D n L Y k) (Y.getD k pp):=by
 unfold wrTo;rw [List.take_succ_eq_append_getElem a,List.foldl_append,zZ,zX a]
 rfl
theorem v7 (D:Nat→Dm) (n:Nat) (L:List (Int×Int)) (Y:List Ed):∀ k,k≤Y.length→(wrTo D n L Y k).length=L.length
 | 0,_=>rfl
 | k+1,h=>by rw [mQ D n L Y (by omega),wrE,List.length_set,v7 D n L Y k (by omega)]
theorem sH:∀ (A B:List Int),A.Nodup→(∀ x∈A,x∈B)→A.length≤B.length
 | [],_,_,_=>zU
 | a :: r,B,hA,h=>by
  obtain ⟨d,f⟩:=List.nodup_cons.1 hA;have b:=h a (List.mem_cons_self ..);have g:0<B.length:=List.length_pos_of_mem b;have:=sH r (B.erase a) f fun x c=>(List.mem_erase_of_ne (fun e=>d (by rw [←e];exact c))).2 (h x (List.mem_cons_of_mem _ c))
  rw [List.length_erase_of_mem b] at this;rw [List.length_cons]
  omega
section
variable {D:Nat→Dm} {n:Nat}
theorem jG {l:List En} {x:Ed} (c:Ens D n l) (h:editErr D n l x=0):shapeErr D n x.pl=0∧leafV D n x.pl=true∧(x.clear=true→hasE l x.pl=true)∧(x.clear=false→cX x.n=true):=by
 unfold editErr at h
 split at h
 ·rename_i h1;exact absurd h h1
 rename_i h1
 refine ⟨by simpa using h1,?_⟩
 split at h
 ·rename_i h2
  split at h
  ·rename_i h3
   obtain ⟨-,a,b⟩:=th h3 0;have d:l.getD (cntE l x.pl) noEn∈l:=by rw [zZ,zX a];exact List.getElem_mem a
   have:=(c.each _ d).2.1;rw [b] at this;exact ⟨this,fun _=>h3,fun e=>by rw [h2] at e;cases e⟩
  cases h
 rename_i h2
 split at h
 ·cases h
 rename_i h3
 split at h
 ·cases h
 rename_i a
 exact ⟨by simpa using h3,fun e=>absurd e h2,fun _=>by simpa using a⟩
theorem oL {l:List En} {x:Ed} (b:Ens D n l) (h:editErr D n l x=0) (q:List Int):getE (editV l x) q=if q=x.pl then Kh x else getE l q:=by
 obtain ⟨-,-,c,d⟩:=jG b h;unfold editV Kh
 by_cases a:x.clear=true
 ·rw [if_pos a,if_pos a]
  by_cases e:q=x.pl
  ·rw [if_pos e,e]
   exact (b.gone (c a)).1
  rw [if_neg e];obtain ⟨g1,g2,-⟩:=me b.rise x.pl (c a);refine uj g1 b.rise fun y f=>?_
  rw [g2];exact ⟨fun h=>h.1,fun h=>⟨h,by rw [f];exact e⟩⟩
 rw [if_neg a,if_neg a]
 by_cases e:q=x.pl
 ·rw [if_pos e,e,(b.there _ _).1]
  have:=d (by simpa using a)
  unfold cX at this;simp only [Bool.and_eq_true,decide_eq_true_eq] at this;unfold eG;rw [if_pos ⟨by omega,by omega⟩]
 rw [if_neg e];exact b.else e _
theorem vo {j:Nat} {p:List Int} (a:InO D n p) (b:j<prodN D n) (h:j≠(numI D p n).toNat):aj D n j≠p:=fun e=>h (by
 have:=mB a.right b;rw [e] at this
 omega)
def I5 (D:Nat→Dm) (n:Nat) (l l':List En) (L:List (Int×Int)):Prop:=L.length=prodN D n∧∀ j:Nat,j<prodN D n→(byTo D (aj D n j) n<0→L.getD j noC=getE l' (aj D n j))∧(¬ byTo D (aj D n j) n<0→L.getD j noC=ez D n (getE l) (aj D n j))
theorem I5.start {l:List En} (b:(aO D n).2.2=0) (a:Ens D n l):I5 D n l l (caL D n l):=by
 refine ⟨gO (gz b a),fun j c=>⟨fun h=>?_,fun _=>wD (gz b a) c⟩⟩
 rw [wD (gz b a) c,fR _ h]
theorem I5.step {l l':List En} {L:List (Int×Int)} {x:Ed} (h:I5 D n l l' L) (b:Ens D n l') (c:editErr D n l' x=0):I5 D n l (editV l' x) (wrE D n L x):=by
 obtain ⟨q,k,-,-⟩:=jG b c;have a:=(b.edit c).1;have d:byTo D x.pl n = -1:=by
  have:=AJ (D:=D) (n:=n) a.ok;rw [k] at this
  simpa using this.symm
 have m:=a8 a (Nat.le_refl n);refine ⟨by rw [wrE,List.length_set];exact h.1,fun j g=>?_⟩
 by_cases e:j=(numI D x.pl n).toNat
 ·have p:aj D n j=x.pl:=by rw [e];exact gn a
  rw [p];refine ⟨fun _=>?_,fun o=>absurd (by rw [d];decide) o⟩
  rw [oL b c,if_pos rfl,wrE,zZ,e,List.getElem?_set_self (by rw [h.1];omega)]
  rfl
 have f:=vo a g e;rw [oL b c,if_neg f,wrE,zZ,List.getElem?_set_ne (fun i=>e i.symm),←zZ]
 exact h.2 j g
theorem GV {l:List En} {Y:List Ed} (c:(aO D n).2.2=0) (a:Ens D n l) (h:doE D n l Y=0):∀ k,k≤Y.length→I5 D n l (k8 l Y k) (wrTo D n (caL D n l) Y k)
 | 0,_=>I5.start c a
 | k+1,hk=>by
  obtain ⟨-,-,b⟩:=jq a h;rw [mQ _ _ _ _ (by omega),mi _ _ (by omega)]
  exact (GV c a h k (by omega)).step (b k (by omega)).2 (b k (by omega)).1
def numsY (D:Nat→Dm) (n:Nat) (Y:List Ed):List Int:=Y.map fun x=>numI D x.pl n
theorem Id {Y:List Ed} {k:Nat} (a:k<Y.length):numI D (Y.getD k pp).pl n∈numsY D n Y:=List.mem_map.2 ⟨Y.getD k pp,by rw [zZ,zX a];exact List.getElem_mem a,rfl⟩
theorem qS {l:List En} {Y:List Ed} (p:(aO D n).2.2=0) (o:Ens D n l) (h:doE D n l Y=0) {i:Nat} (b:i<prodN D n) (g:(i:Int)∉drtL D n (numsY D n Y)):∀ k,k≤Y.length→ez D n (getE (k8 l Y k)) (aj D n i)=ez D n (getE l) (aj D n i)
 | 0,_=>rfl
 | k+1,hk=>by
  obtain ⟨r,s⟩:=ex p;obtain ⟨-,-,q⟩:=jq o h;obtain ⟨d,e⟩:=q k (by omega)
  have f:=(e.edit d).1;have a:=a8 f (Nat.le_refl n);rw [←qS p o h b g k (by omega),mi _ _ (by omega)]
  refine DH s r (m:=(numI D (Y.getD k pp).pl n).toNat) (fun j t c=>?_) _ i b (Nat.lt_succ_self _) fun u=>g ?_
  ·rw [oL e d,if_neg (vo f t c)]
  unfold drtL;rw [ID b,k6];exact ⟨_,by rw [Int.toNat_of_nonneg a.1];exact Id (by omega),u⟩
def Bx (D:Nat→Dm) (n:Nat) (l':List En) (DR O:List Int) (k:Nat) (L:List (Int×Int)):Prop:=L.length=prodN D n∧∀ j:Nat,j<prodN D n→(byTo D (aj D n j) n<0→L.getD j noC=getE l' (aj D n j))∧((j:Int)∈O.take k∨(j:Int)∉DR→L.getD j noC=ez D n (getE l') (aj D n j))
theorem BC {l:List En} {Y:List Ed} (f:(aO D n).2.2=0) (e:Ens D n l) (h:doE D n l Y=0) (O:List Int):Bx D n (doL D n l Y) (drtL D n (numsY D n Y)) O 0 (wrTo D n (caL D n l) Y Y.length):=by
 obtain ⟨-,g,-⟩:=jq e h;have b:=GV f e h Y.length (zT);rw [g];refine ⟨b.1,fun j a=>⟨(b.2 j a).1,fun i=>?_⟩⟩
 have d:(j:Int)∉drtL D n (numsY D n Y):=i.resolve_left (by simp)
 by_cases c:byTo D (aj D n j) n<0
 ·rw [(b.2 j a).1 c,fR _ c]
 rw [(b.2 j a).2 c,qS f e h a d _ (zT)]
theorem Eg {l':List En} {DR:List Int} {k:Nat} {L:List (Int×Int)} (w:(aO D n).2.2=0) (C:Ens D n l') (B:k<prodN D n) (h:Bx D n l' DR (coL D n) k L):∃ m:Nat,(coL D n).getD k 0=(m:Int)∧m<prodN D n∧(∀ z∈ndsX D n m,b6 (L.getD z.toNat noC))∧Bx D n l' DR (coL D n) (k+1) (L.set m (qn D n L m))∧(nH DR (m:Int)=false→Bx D n l' DR (coL D n) (k+1) L)∧(coL D n).take (k+1)=(coL D n).take k ++ [(m:Int)]:=by
 obtain ⟨b,c⟩:=ex w;obtain ⟨m,t,a,x,u,p⟩:=ye (fk c b) (fD c b) (k:=k) (by rw [bN];exact B)
 have A:aB (rowsL D n) (prodN D n)=coL D n:=by unfold coL;rw [if_pos w]
 rw [bN,A] at t x u p;rw [bN] at a;have l:∀ z∈ndsX D n m,∃ y:Nat,z=(y:Int)∧y<prodN D n∧(y:Int)∈(coL D n).take k:=fun z f=>by
  obtain ⟨y,rfl,r⟩:=xO c b a z f;refine ⟨y,rfl,r,u _ ?_⟩;have E:=iD c b a;rw [lJ a,←lT c b E,(List.mergeSort_perm _ _).mem_iff];exact f
 have g:∀ z∈ndsX D n m,L.getD z.toNat noC=ez D n (getE l') (aj D n z.toNat):=fun z f=>by
  obtain ⟨y,rfl,r,s⟩:=l z f;rw [Int.toNat_natCast];exact (h.2 y r).2 (Or.inl s)
 have o:=GF c b a (fun q=>(h.2 m a).1 q) g
 have hcut:∀ j:Nat,j≠m→((j:Int)∈(coL D n).take (k+1)↔(j:Int)∈(coL D n).take k):=fun j e=>by
  rw [p,List.mem_append,List.mem_singleton];exact ⟨fun h=>h.resolve_right (by omega),Or.inl⟩
 refine ⟨m,t,a,fun z f=>?_,⟨by rw [List.length_set];exact h.1,fun j d=>?_⟩,fun v=>⟨h.1,fun j d=>⟨(h.2 j d).1,fun i=>?_⟩⟩,p⟩
 ·rw [g z f]
  exact oY c (mn C) _ _ (bZ b) (Nat.lt_succ_self _)
 ·by_cases e:j=m
  ·subst e
   rw [zZ,List.getElem?_set_self (by rw [h.1];exact d)]
   exact ⟨fun q=>by rw [Option.getD_some,o,fR _ q],fun _=>o⟩
  rw [zZ,List.getElem?_set_ne (fun h=>e h.symm),←zZ,hcut j e]
  exact h.2 j d
 by_cases e:j=m
 ·subst e
  exact (h.2 j d).2 (Or.inr (by unfold nH at v;rwa [decide_eq_false_iff_not] at v))
 rw [hcut j e] at i;exact (h.2 j d).2 i
theorem oE (c:(aO D n).2.2=0):(coL D n).length=prodN D n:=by
 obtain ⟨a,b⟩:=ex c;unfold coL;rw [if_pos c];exact ef (fk b a) (fD b a) (prodN D n) (by rw [bN];exact zT)
theorem EH (c:(aO D n).2.2=0) {j:Nat} (e:j<prodN D n):(j:Int)∈coL D n:=by
 have a:(coL D n).Nodup∧∀ x∈coL D n,0≤x∧x<((rowsL D n).length:Int):=by unfold coL;rw [if_pos c];exact pA _ _
 refine Classical.byContradiction fun d=>?_
 have:=few (prodN D n) ((j:Int) :: coL D n) (List.nodup_cons.2 ⟨d,a.1⟩) fun x b=>by
  rcases List.mem_cons.1 b with rfl | b
  ·omega
  have:=a.2 x b;rw [bN] at this;exact this
 rw [List.length_cons,oE c] at this
 omega
theorem G4 {l':List En} {DR:List Int} {L:List (Int×Int)} (a:(aO D n).2.2=0) (c:Ens D n l') (h:Bx D n l' DR (coL D n) (prodN D n) L):L=caL D n l' :=
 Es (gz a c) h.1 fun j b=>(h.2 j b).2 (Or.inl (by rw [List.take_of_length_le (by rw [oE a];exact zT)];exact EH a b))
def cntD (DR O:List Int) (k:Nat):Nat:=((O.take k).filter fun x=>nH DR x).length
theorem Hc (DR O:List Int) (k:Nat):cntD DR O k≤k:=zV (List.length_filter_le _ _) (by rw [List.length_take];omega)
theorem He {DR O:List Int} {k:Nat} {z:Int} (h:O.take (k+1)=O.take k ++ [z]) (a:nH DR z=true):cntD DR O (k+1)=cntD DR O k+1:=by unfold cntD;rw [h,List.filter_append];simp [a]
theorem EG {DR O:List Int} {k:Nat} {z:Int} (h:O.take (k+1)=O.take k ++ [z]) (a:nH DR z=false):cntD DR O (k+1)=cntD DR O k:=by unfold cntD;rw [h,List.filter_append];simp [a]
theorem Hd {f:Nat→Bool} (d:(aO D n).2.2=0):cntD (selTo f (prodN D n)) (coL D n) (prodN D n)=(selTo f (prodN D n)).length:=by
 have b:(coL D n).Nodup:=by unfold coL;rw [if_pos d];exact (pA _ _).1
 have c:(selTo f (prodN D n)).Nodup:=(fl f (prodN D n)).imp fun h=>by omega
 unfold cntD;rw [List.take_of_length_le (by rw [oE d];exact zT)]
 refine Nat.le_antisymm (sH _ _ (b.filter _) fun x a=>?_) (sH _ _ c fun x a=>?_)
 ·have:=(List.mem_filter.1 a).2
  unfold nH at this
  simpa using this
 obtain ⟨m,rfl,e,-⟩:=cS x a;exact List.mem_filter.2 ⟨EH d e,by unfold nH;simpa using a⟩
theorem Br:∀ Q:List (List Int),(∀ q∈Q,shapeErr D n q=0)→shTo D n Q=0
 | [],_=>rfl
 | q :: r,h=>by
  unfold shTo;rw [if_neg (by simpa using h q (List.mem_cons_self ..))]
  exact Br r fun x a=>h x (List.mem_cons_of_mem _ a)
theorem oJ {l:List En} {Y:List Ed} (p:(aO D n).2.2=0) (o:Ens D n l) (h:doE D n l Y=0):wf D n (Y.map Ed.pl)=0∧D3 D n (Y.map Ed.pl)=drtL D n (numsY D n Y)∧doN D n l Y=(drtL D n (numsY D n Y)).length:=by
 obtain ⟨-,-,j⟩:=jq o h;have b:∀ q∈Y.map Ed.pl,shapeErr D n q=0∧leafV D n q=true:=fun q b=>by
  obtain ⟨x,r,rfl⟩:=List.mem_map.1 b;obtain ⟨k,g,e⟩:=List.getElem_of_mem r;obtain ⟨c,d⟩:=j k g;have i:Y.getD k pp=x:=by rw [zZ,zX g,e];rfl
  rw [i] at c;exact ⟨(jG d c).1,(jG d c).2.1⟩
 have s:wT D n (Y.map Ed.pl)=0:=by
  unfold wT;rw [if_neg (by simpa using Br _ fun q h=>(b q h).1),if_neg]
  rw [List.any_eq_true];rintro ⟨q,m,f⟩;rw [(b q m).2] at f;cases f
 have a:wf D n (Y.map Ed.pl)=0:=by unfold wf;rw [if_neg (by simpa using p)];exact s
 refine ⟨a,?_,by unfold doN;rw [if_pos h];rfl⟩
 unfold D3 k7 numsY;rw [if_pos a,List.map_map]
 rfl
end
def plD (ys:List EdL):List PL:=ys.map fun y=>⟨y.x.pl,y.A,y.c⟩
theorem plD_len (ys:List EdL):(plD ys).length=ys.length:=by simp [plD]
theorem Ju (ys:List EdL):lP (plD ys)=(lD ys).map Ed.pl:=by simp [lP,plD,lD,Function.comp_def]
theorem F3 (ys:List EdL) {k:Nat} (a:k<ys.length):(plD ys).take (k+1)=(plD ys).take k ++ [⟨(ys.getD k noD).x.pl,(ys.getD k noD).A,(ys.getD k noD).c⟩]:=by
 rw [List.take_succ_eq_append_getElem (by rw [plD_len];exact a)]
 simp [plD,zX a]
theorem sz (ys:List EdL) (k:Nat):(lD ys).getD k pp=(ys.getD k noD).x:=by
 unfold lD;rw [zZ,zZ,List.getElem?_map];cases ys[k]? <;> rfl
theorem DE {w:World} {g x q:Nat} (h:q≠g) (a b:Value):((w.setCell ⟨g,x,none⟩ a).setCell ⟨g,x+1,none⟩ b).heap[q]?=w.heap[q]?:=(ar _ _ _ _ _ h).trans (ar _ _ _ _ _ h)
theorem yV {w:World} {g x q o:Nat} {v:Value} (h:q≠g) (c:w.cell? ⟨q,o,none⟩=some v) (a b:Value):((w.setCell ⟨g,x,none⟩ a).setCell ⟨g,x+1,none⟩ b).cell? ⟨q,o,none⟩=some v:=(World.cell?_of_block (a:=⟨q,o,none⟩) (DE h a b)).trans c
theorem yW {w:World} {g x:Nat} (a b:Value):((w.setCell ⟨g,x,none⟩ a).setCell ⟨g,x+1,none⟩ b).heap.size=w.heap.size:=by simp
theorem sV (Ax:Option Addr) (X:Nat) (ys:List EdL) (w:World) (hl:ys.length≤60) (Y:ks w Ax X ys) :
  Calls Tryz.prog 55 #[.slice Ax ys.length X] w fun e w'=>(∃ A' q,e=.returned (.slice A' ys.length q)∧rZ w' A' q (plD ys))∧Bl w w':=by
 obtain ⟨i0,O,S,T,U⟩:=info_parts Tryz.infoPla;have W:=aa Y;obtain ⟨ny,h⟩:=az ys.length;have a:=aa h;have L:Hid (∀ k,k<ny→(plD ys).take (k+1)=(plD ys).take k ++ [⟨(ys.getD k noD).x.pl,(ys.getD k noD).A,(ys.getD k noD).c⟩]):=fun k P=>F3 ys (by rw [h];exact P)
 have HTl:Hid (∀ k,k≤ny→((plD ys).take k).length=k):=fun k P=>by rw [List.length_take,plD_len,h];omega
 rw [h] at hl ⊢;have hlI:(ny:Int)≤60:=by omega
 clear Y h
 go_enter Tryz.func55,Tryz.ntmps55
 go_wp2_with fail
 go_loopg [3,8] ny (fun gg s3 s8 wr => ∃ (k:Nat) (v:Value),k≤ny∧gg=ny-k∧s8=.int .i64 k∧v=s3∧Hid (wr.ownsRow w.heap.size 27 1 v k (gw ((plD ys).take k)))∧Hid (Bl w wr))
 case atStart=>exact ⟨0,_,zU,rfl,rfl,rfl,aa (by simpa [gw] using World.ownsRow_nil _ _ _ _),zS⟩
 case round =>
  obtain ⟨k,v,P,rfl,rfl,rfl,V,l⟩:=hrel
  by_cases D:k<ny
  ·have R:k<ys.length:=by rw [a.out];exact D
   have hki:(k:Int)<(ny:Int):=by omega
   obtain ⟨N,-,t | ⟨b,o,rfl,d⟩⟩:=W.out.later l.out
   ·have:=a.out;rw [t] at this;simp at this;omega
   obtain ⟨H,d1,d2,-⟩:=d.2 k R;have hbl:b<wr.heap.size:=d.1;have m:=aa (L.out k D);rw [a.out] at N;generalize (ys.getD k noD).A=A1 at H m;generalize (ys.getD k noD).c=k1 at H m;generalize (ys.getD k noD).x.n=n1 at d1;generalize (ys.getD k noD).x.clear=q1 at d2;generalize (ys.getD k noD).x.pl=pl at H m;obtain ⟨m1,s⟩:=az pl.length;have J:=aa s;rw [s] at H;obtain ⟨y,F⟩:=az (wr.alloc (.cells #[.slice A1 m1 k1,.int .i64 n1,.bool q1] 41));have r:Bl wr y:=by rw [←F];go_grown
   have G:y.heap[wr.heap.size]?=some (.cells #[.slice A1 m1 k1,.int .i64 n1,.bool q1] 41 (0,0)):=by rw [←F];exact heap_alloc_new ..
   have y0:y.cell? ⟨wr.heap.size,0,none⟩=some (.slice A1 m1 k1):=(Lib.cell_of_heap G 0).trans rfl;have hys:wr.heap.size<y.heap.size:=by rw [←F];simp
   have B:=aa (ae l.out r);have C:Hid (y.ownsRow w.heap.size 27 1 v k (gw ((plD ys).take k))):=an V.out r;have hsy:=B.out.size;clear d r G s
   go_wp2_with (at_builtin;refine wpList_append_own _ rfl _ _ 112 rfl w.heap.size 27 i0 (.slice none 0 0) 1 24 Tryz.underlying112 O S T U rfl (by decide) _ _ _ rfl (C.out.alloc _) ⟨y.heap.size,0,none⟩ 1 1 [.slice A1 m1 k1] rfl rfl bz (by intro u hu;simp at hu;subst hu;rfl) (by unfold maxLen;omega) (by omega) (by simp;omega) ?_)
   intro v' w4 i f _;have I:Hid (Bl w w4):=bD B.out C.out f;have K:Hid (w4.ownsRow w.heap.size 27 1 v' (k+1) (gw ((plD ys).take (k+1)))):=by
    show World.ownsRow ..
    have e:gw [(⟨pl,A1,k1⟩:PL)]=[.slice A1 m1 k1]:=by simp [gw,J.out]
    rw [m.out,cellsP_append,e];exact i
   clear i f;go_wp2_with fail
   go_roundg (ny-(k+1))
   case measure=>omega
   case rel=>exact ⟨k+1,v',by omega,rfl,by go_num,rfl,K,I⟩
  have Q:k=ny:=by omega
  subst Q;have HF:Hid (∃ A' q,v=.slice A' k q∧rZ wr A' q (plD ys)):=by
   have M:=V.out;rw [List.take_of_length_le (by rw [plD_len,a.out];exact zT)] at M
   have E:∀ x∈plD ys,aZ wr x.A x.c x.p:=fun x hx=>by
    unfold plD at hx;obtain ⟨y,F,rfl⟩:=List.mem_map.1 hx;obtain ⟨j,z,rfl⟩:=List.getElem_of_mem F;obtain ⟨-,-,t | ⟨b,o,-,d⟩⟩:=W.out.later l.out
    ·rw [t] at z;simp at z
    have:=(d.2 j z).2.2.2;rw [zZ,zX z] at this;exact this
   rcases M.2 with ⟨rfl,t⟩ | ⟨g,cap,cur,rfl,hb,hg,hc,-⟩
   ·have Z:plD ys=[]:=List.eq_nil_of_length_eq_zero (by rw [plD_len,a.out];exact t)
    exact ⟨none,0,by rw [t],by rw [Z];exact zT,Or.inl Z,E⟩
   refine ⟨_,cap,rfl,by rw [plD_len,a.out];exact hc,Or.inr ⟨g,0,rfl,(zY hg).1,fun j z=>?_⟩,E⟩
   have:=M.cells (g:=g) rfl j (.slice ((plD ys).getD j mA).A ((plD ys).getD j mA).p.length ((plD ys).getD j mA).c) (by simp [gw,zX z])
   rw [aK] at this;exact this
  go_wp2_with fail;obtain ⟨A',q,rfl,hP⟩:=HF.out;go_ret;exact ⟨⟨A',q,rfl,hP⟩,l.out⟩
theorem xr (A0:Option Addr) (cap n:Nat) (D:Nat→Dm) (A:Nat→Option Addr) (C:Nat→Nat) (Ax:Option Addr) (cx:Nat) (ys:List EdL) (gC cC:Nat) (L:List (Int×Int)) (w0 w:World) (hl:ys.length≤60) (hp3:prodN D n≤3000) (hM:aW w0 A0 cap n D A C) (hX:ks w0 Ax cx ys) (hB:Bl w0 w) (hg:w0.heap.size≤gC) (hC:bU w gC L) (hL:L.length=prodN D n) (hcc:prodN D n≤cC) (hI:∀ k,k<ys.length→InO D n (ys.getD k noD).x.pl) :
  Calls Tryz.prog 27 #[.agg #[.slice A0 n cap],.slice (some ⟨gC,0,none⟩) (prodN D n) cC,.slice Ax ys.length cx] w fun e w'=>e=.returned .nilIface∧bU w' gC (wrTo D n L (lD ys) ys.length)∧Bl w0 w':=by
 have s:=ao w A0 n cap 24;have hS:=av w A0 n cap 24;have hA:=aH w A0 n cap 24;obtain ⟨W,hW⟩:=az (ax w A0 n cap 24);rw [hW] at s hS hA;unfold ax at hW;have hgw:gC<w.heap.size:=hC.lt;have R:Hid (bU W gC (wrTo D n L (lD ys) 0)∧Bl w0 W∧W.cell? ⟨w.heap.size,0,none⟩=some (.slice A0 n cap)∧w.heap.size<W.heap.size):=⟨hC.later s,ae hB s,hA,by omega⟩
 have HX:=aa hX;obtain ⟨ny,u⟩:=az ys.length;have I:=aa u;have J:Hid (∀ k w',k<ny→Bl w0 w'→∃ m:Nat,m<prodN D n∧wrTo D n L (lD ys) (k+1)=(wrTo D n L (lD ys) k).set m (Kh (ys.getD k noD).x)∧(wrTo D n L (lD ys) k).length=prodN D n∧Rt 33 #[.agg #[.slice A0 n cap],.slice (ys.getD k noD).A (ys.getD k noD).x.pl.length (ys.getD k noD).c] w' (.tuple #[.int .i64 (m:Nat),.nilIface])):=fun k w' hk S=>by
  have q:k<ys.length:=by rw [u];exact hk
  have hi:=hI k q;have hbd:=a8 hi (Nat.le_refl n);have hpl:aZ w' (ys.getD k noD).A (ys.getD k noD).c (ys.getD k noD).x.pl:=by
   obtain ⟨-,-,h0 | ⟨b,o,-,l⟩⟩:=hX.later S
   ·rw [h0] at q;simp at q
   exact (l.2 k q).2.2.2
  have h:=gX A0 cap n D A C _ _ _ w' (hM.later S) hpl;have hnv:numV D n (ys.getD k noD).x.pl=((numI D (ys.getD k noD).x.pl n).toNat:Nat):=by unfold numV;rw [if_pos hi.ok];omega
  rw [hi.ok,errV_zero,hnv] at h;refine ⟨_,by omega,?_,by rw [v7 _ _ _ _ _ (by rw [lD_len];omega)];exact hL,h⟩
  rw [mQ _ _ _ _ (by rw [lD_len];exact q),wrE,sz]
 have HOf:Hid (∀ x w',Rt 53 #[.int .i64 x] w' (.agg #[.int .i64 (eG x).1,.int .i64 (eG x).2])):=fun x w'=>jv x w'
 obtain ⟨N,hN⟩:=az (prodN D n);rw [hN] at J hcc hp3 ⊢;rw [u] at hl ⊢;generalize wrTo D n L (lD ys)=LW at R J ⊢;have hlI:(ny:Int)≤60:=by omega
 have hNI:(N:Int)≤3000:=by omega
 have hcI:(N:Int)≤(cC:Int):=by omega
 clear hM hX hB hC hL hI s hS hA u hN
 go_enter Tryz.func27,Tryz.ntmps27
 go_wp2_with fail
 go_loopg [13] ny (fun gg s13 wr => ∃ k:Nat,k≤ny∧gg=ny-k∧s13=.int .i64 k∧Hid (bU wr gC (LW k)∧Bl w0 wr∧wr.cell? ⟨w.heap.size,0,none⟩=some (.slice A0 n cap)∧w.heap.size<wr.heap.size))
 case atStart=>exact ⟨0,zU,rfl,rfl,R⟩
 case round =>
  obtain ⟨k,hk,rfl,rfl,HK⟩:=hrel
  by_cases T:k<ny
  ·have hkx:k<ys.length:=by rw [I.out];exact T
   have hki:(k:Int)<(ny:Int):=by omega
   obtain ⟨M,K,c0,hsr⟩:=HK.out;obtain ⟨hcx,-,h0 | ⟨b,o,rfl,l⟩⟩:=HX.out.later K
   ·have:=I.out;rw [h0] at this;simp at this;omega
   obtain ⟨d0,d1,d2,-⟩:=l.2 k hkx;have hbl:b<wr.heap.size:=l.1;rw [I.out] at hcx;obtain ⟨y,z⟩:=az (wr.alloc (.cells #[.slice (ys.getD k noD).A (ys.getD k noD).x.pl.length (ys.getD k noD).c,.int .i64 (ys.getD k noD).x.n,.bool (ys.getD k noD).x.clear] 41));have t:Bl wr y:=by rw [←z];go_grown
   have B:y.heap[wr.heap.size]?=some (.cells #[.slice (ys.getD k noD).A (ys.getD k noD).x.pl.length (ys.getD k noD).c,.int .i64 (ys.getD k noD).x.n,.bool (ys.getD k noD).x.clear] 41 (0,0)):=by rw [←z];exact heap_alloc_new ..
   have Y:y.cell? ⟨wr.heap.size,0,none⟩=some (.slice (ys.getD k noD).A (ys.getD k noD).x.pl.length (ys.getD k noD).c):=(Lib.cell_of_heap B 0).trans rfl;have Z:y.cell? ⟨wr.heap.size,1,none⟩=some (.int .i64 (ys.getD k noD).x.n):=(Lib.cell_of_heap B 1).trans rfl;have X:y.cell? ⟨wr.heap.size,2,none⟩=some (.bool (ys.getD k noD).x.clear):=(Lib.cell_of_heap B 2).trans rfl;have r:wr.heap.size<y.heap.size:=by rw [←z];simp
   have hgr:gC<wr.heap.size:=M.lt;have cy:=aC t hsr c0;have Q:=aa (M.later t);have G:=aa (ae K t);have v:w.heap.size<y.heap.size:=by omega
   obtain ⟨m,O,E,U,i⟩:=J.out k y T G.out;have g:=aa E;have H:=aa U;have hmI:(m:Int)<(N:Int):=by omega
   unfold Kh at g;generalize (ys.getD k noD).A=A1 at d0 z Y i;generalize (ys.getD k noD).c=k1 at d0 z Y i;generalize (ys.getD k noD).x.n=n1 at d1 z Z g;generalize (ys.getD k noD).x.clear=q1 at d2 z X g;generalize (ys.getD k noD).x.pl.length=m1 at d0 z Y i;clear l t B M K E U;have P:Hid (∀ (w5:World) (a b:Int),bU w5 gC (LW k)→Bl w0 w5→w5.cell? ⟨w.heap.size,0,none⟩=some (.slice A0 n cap)→w.heap.size<w5.heap.size→LW (k+1)=(LW k).set m (a,b)→bU ((w5.setCell ⟨gC,m*2,none⟩ (.int .i64 a)).setCell ⟨gC,m*2+1,none⟩ (.int .i64 b)) gC (LW (k+1))∧Bl w0 ((w5.setCell ⟨gC,m*2,none⟩ (.int .i64 a)).setCell ⟨gC,m*2+1,none⟩ (.int .i64 b))∧((w5.setCell ⟨gC,m*2,none⟩ (.int .i64 a)).setCell ⟨gC,m*2+1,none⟩ (.int .i64 b)).cell? ⟨w.heap.size,0,none⟩=some (.slice A0 n cap)∧w.heap.size<((w5.setCell ⟨gC,m*2,none⟩ (.int .i64 a)).setCell ⟨gC,m*2+1,none⟩ (.int .i64 b)).heap.size):=fun w5 a b h1 h2 h3 h4 h5 =>
    ⟨by rw [h5];exact h1.set (by rw [H.out];exact O) a b,(h2.setCell hg _).setCell hg _,yV (by omega) h3 _ _,by rw [yW];exact h4⟩
   go_wp2_with fail;refine i.mono ?_;rintro e w3 ⟨rfl,d⟩;clear i Y z;cases q1
   ·have z1:=aC d r Z
    have z2:=aC d r X;have cz:=aC d v cy;have K0:=aa (Q.out.later d);have q0:=aa (ae G.out d);have hs3:wr.heap.size<w3.heap.size:=zW r d.size;have F:w.heap.size<w3.heap.size:=zW v d.size;have V:=HOf.out n1 w3;clear d Z X;go_wp2_with fail;refine V.mono ?_;rintro e w5 ⟨rfl,p⟩;have f:=K0.out.later p;obtain ⟨r0,r1⟩:=f.at (k:=m) (by rw [H.out];exact O)
    have f0:=f.frozen (m*2);have f1:=f.frozen (m*2+1);have hgl:=f.lt;have j:=aa (P.out w5 (eG n1).1 (eG n1).2 f (ae q0.out p) (aC p F cz) (zW F p.size) (by rw [g.out];rfl))
    clear p V f;go_wp2_with fail
    go_roundg (ny-(k+1))
    case measure=>omega
    case rel=>exact ⟨k+1,by omega,rfl,by go_num,j⟩
   have z2:=aC d r X;have f:=Q.out.later d;obtain ⟨r0,r1⟩:=f.at (k:=m) (by rw [H.out];exact O)
   have f0:=f.frozen (m*2);have f1:=f.frozen (m*2+1);have hgl:=f.lt;have hs3:wr.heap.size<w3.heap.size:=zW r d.size;have j:=aa (P.out w3 0 0 f (ae G.out d) (aC d v cy) (zW v d.size) (by rw [g.out];rfl))
   clear d Z X f;go_wp2_with fail
   go_roundg (ny-(k+1))
   case measure=>omega
   case rel=>exact ⟨k+1,by omega,rfl,by go_num,j⟩
  have hke:k=ny:=by omega
  subst hke;go_wp2_with fail;go_ret;exact ⟨rfl,HK.out.1,HK.out.2.1⟩
end Go.Proofs.YtohgnbgamfepoaaGreatDoor
