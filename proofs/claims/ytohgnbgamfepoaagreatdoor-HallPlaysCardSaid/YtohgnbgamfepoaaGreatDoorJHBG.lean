/-
  What the document's own AllTold answers, in whatever memory: of each place, by number, the numbers of the places that it needs.
-/
import Derived.Test.YtohgnbgamfepoaaGreatDoorJHBE
import Derived.Test.YtohgnbgamfepoaaGreatDoorJHBF
namespace Go.Proofs.YtohgnbgamfepoaaGreatDoor
open Go.ChangeShapes Go.WideShapes Go.ChangeAt Go.RowKit
set_option maxRecDepth 20000
theorem lK (A0:Option Addr) (cap n:Nat) (D:Nat→Dm) (A:Nat→Option Addr) (C:Nat→Nat) (w:World) (hR:dI D n) (hE:(am D n).2.2=0) (hM:aW w A0 cap n D A C) :
  Calls Tryz.prog 24 #[.agg #[.slice A0 n cap]] w fun e w'=>(∃ A' a xs,e=.returned (.slice A' (prodN D n) a)∧xs.length=prodN D n∧db w' A' a xs∧∀ i,i<prodN D n→eM D n (aj D n i) (xs.getD i eq).p)∧Bl w w':=by
 obtain ⟨i0,hi0,hz0,hz1,hz2⟩:=info_parts Tryz.infoRow;obtain ⟨hn1,Ld,hp3,hd⟩:=au hE;have v:=ao w A0 n cap 24;have hS:=av w A0 n cap 24;have hA:=aH w A0 n cap 24;obtain ⟨W,hW⟩:=az (ax w A0 n cap 24);rw [hW] at v hS hA;unfold ax at hW;have I:=aa v;have HM:=aa hM;have HA:=aa hA;have HR:=aa hR;have HE:=aa hE;have Le:w.heap.size<W.heap.size:=by omega
 have hnI:(n:Int)≤4:=by omega
 have Lc:=ti A0 cap n D A C W Ld hR (hM.later v);have K0:Hid (∀ w',Bl W w'→Rt 49 #[.agg #[.slice A0 n cap]] w' (.int .i64 (prodN D n))):=fun w' t=>by
  obtain ⟨hcap,h0 | ⟨b,o,rfl,hMs⟩⟩:=HM.out.later (ae I.out t)
  ·omega
  exact rC b o n cap D A C w' Ld (fun j hj=>(hd j hj).2) hMs
 obtain ⟨PN,P⟩:=az (prodN D n);have HPN:=aa P;rw [P] at K0 hp3 ⊢;have hPI:(PN:Int)≤3000:=by omega
 clear hM v hR hS hE hd P
 go_enter Tryz.func24,Tryz.ntmps24
 go_wp2_with fail;refine Lc.mono ?_;rintro e w1 ⟨⟨AN,cN,ys,rfl,Lf,hY,Lg⟩,m⟩;have U:=aa m;have HYl:=aa Lf;have HY:=aa hY;have HYn:=aa Lg;have K4:w1.cell? ⟨w.heap.size,0,none⟩=some (.slice A0 n cap):=aC m Le HA.out;have E:w.heap.size<w1.heap.size:=zW Le m.size;have G:=K0.out w1 m;clear m Lf hY Lg Lc hW hA;go_wp2_with fail;refine G.mono ?_;rintro e w2 ⟨rfl,y⟩;have J:=aa y;have HA2:Hid (w2.cell? ⟨w.heap.size,0,none⟩=some (.slice A0 n cap)):=aC y E K4;have F:w.heap.size<w2.heap.size:=zW E y.size;clear y G K4;go_wp2_with fail
 go_loopg [4,6] PN (fun g s4 s6 wr => ∃ (k:Nat) (xs:List RL),k≤PN∧g=PN-k∧s6=.int .i64 k∧Hid (xs.length=k∧(∀ i,i<k→eM D n (aj D n i) (xs.getD i eq).p)∧∀ x∈xs,aR wr x.A x.c x.p)∧wr.ownsRow w2.heap.size 26 1 s4 k (cT xs)∧Bl w2 wr)
 case atStart=>exact ⟨0,[],zU,rfl,rfl,(⟨rfl,fun i hi=>absurd hi (Nat.not_lt_zero _),fun x B=>by cases B⟩:_∧_∧_),World.ownsRow_nil _ _ _ _,zS⟩
 case round =>
  obtain ⟨k,xs,hk,rfl,rfl,L,hO,l⟩:=hrel;have HO:=aa hO;have K:=aa l;have cw:wr.cell? ⟨w.heap.size,0,none⟩=some (.slice A0 n cap):=aC l F HA2.out;have H:w.heap.size<wr.heap.size:=zW F l.size
  by_cases hlt:k<PN
  ·have hki:(k:Int)<(PN:Int):=by omega
   have X:=aa (ae I.out (ae U.out (ae J.out l)));have HIk:Hid (InO D n (aj D n k)):=bZ HE.out;have Q:=placeL_len D n k;have S:Hid (∀ w',Bl wr w'→Calls Tryz.prog 30 #[.agg #[.slice A0 n cap],.int .i64 k] w' fun e w''=>(∃ A' a,e=.returned (.slice A' n a)∧aZ w'' A' a (aj D n k))∧Bl w' w''):=fun w' t=>by
    have h:=Bj A0 cap n D A C k w' HE.out (by rw [HPN.out];exact hlt) (HM.out.later (ae X.out t))
    rw [Q] at h;exact h
   have K3:Hid (∀ A' a w',Bl wr w'→aZ w' A' a (aj D n k)→Calls Tryz.prog 50 #[.agg #[.slice A0 n cap],.slice AN n cN,.slice A' n a] w' fun e w''=>(∃ A' a T,e=.returned (.slice A' T.length a)∧bV w'' A' a T∧eM D n (aj D n k) T)∧Bl w' w''):=fun A' a w' t hP'=>by
    have h:=DK A0 cap n D A C AN cN ys A' a (aj D n k) w' HR.out HIk.out (HM.out.later (ae X.out t)) HYl.out (HY.out.later (ae J.out (ae K.out t))) HYn.out hP';rw [Q] at h;exact h
   have Y:Hid (∀ w',Bl wr w'→w'.cell? ⟨w.heap.size,0,none⟩=some (.slice A0 n cap)∧w.heap.size<w'.heap.size):=fun w' t=>⟨aC t H cw,zW H t.size⟩
   clear l hO Q;obtain ⟨q,hq⟩:=az (aj D n k);have HQ:=aa hq;rw [hq] at S K3;clear hq
   go_upto_region 7 with fail
   go_cut [7] from 12 to 26 (fun s7 wx => ∃ A' a T,s7=.slice A' T.length a∧bV wx A' a T∧eM D n q T∧Bl wr wx)
   case first =>
    go_region_law ((first
     | (go_simp;refine (S.out _ (by go_grown)).mono ?_;rintro e w3 ⟨⟨A3,c3,rfl,O⟩,La⟩;have K5:=ae (W0:=wr) (by go_grown) La;obtain ⟨cw3,hw3⟩:=Y.out _ K5;clear La)
     | (go_simp;refine (K3.out _ _ _ (by go_grown) (by first | exact O | exact O.later (by go_grown))).mono ?_;rintro e w4 ⟨⟨A4,c4,T4,rfl,K6,K8⟩,Lb⟩;have N:=ae (W0:=wr) (by go_grown) Lb;obtain ⟨cw4,hw4⟩:=Y.out _ N;have q0:=aa K6;have K2:=aa K8;have Z:=aa N;clear Lb)))
    all_goals clear O K6 K8 K5 N
    all_goals go_wp2_with fail
    all_goals go_meet
    all_goals first
     | exact ⟨A4,c4,T4,rfl,q0.out,K2.out,Z.out⟩
     | exact ⟨A4,c4,T4,rfl,q0.out.later (ac (zS) _),K2.out,ac Z.out _⟩
   case rest =>
    obtain ⟨A7,M,T,rfl,K7,K9,z⟩:=hcut;obtain ⟨wx,rfl⟩:∃ wx:World,wx=wc:=⟨_,rfl⟩;have V:=aa (ae K.out z);have s:Hid (wx.ownsRow w2.heap.size 26 1 u4 k (cT xs)):=an HO.out z;have HX7:Hid (∀ x∈xs,aR wx x.A x.c x.p):=fun x B=>(L.out.2.2 x B).later z
    have HR7:=aa K7.intT;have HT7:=aa K9;have hs7:=V.out.size;obtain ⟨tl,R⟩:=az T.length;have HTl:=aa R;rw [R];clear z K7 K9 R
    go_wp2_with (at_builtin;refine wpList_append_own _ rfl _ _ 71 rfl w2.heap.size 26 i0 (.slice none 0 0) 1 24 Tryz.underlying71 hi0 hz0 hz1 hz2 rfl (by decide) _ _ _ rfl (s.out.alloc _) ⟨wx.heap.size,0,none⟩ 1 1 [.slice A7 tl M] rfl rfl bz (by intro u hu;simp at hu;subst hu;rfl) (by unfold maxLen;omega) (by omega) (by simp;omega) ?_)
    intro v' w5 r d _;have HB5:Hid (Bl w2 w5):=bD V.out s.out d;have HX5:Hid ((xs ++ [(⟨T,A7,M⟩:RL)]).length=k+1∧(∀ i,i<k+1→eM D n (aj D n i) ((xs ++ [(⟨T,A7,M⟩:RL)]).getD i eq).p)∧∀ x∈xs ++ [(⟨T,A7,M⟩:RL)],aR w5 x.A x.c x.p):=by
     have f:=L.out.1;refine ⟨by rw [List.length_append,f];rfl,fun i hi=>?_,fun x B=>?_⟩
     ·by_cases e:i=k
      ·rw [e,zZ,List.getElem?_append_right (by omega),f,Nat.sub_self,HQ.out]
       exact HT7.out
      rw [zZ,List.getElem?_append_left (by omega),←zZ]
      exact L.out.2.1 i (by omega)
     rcases List.mem_append.1 B with B | B
     ·exact ((HX7.out x B).later (by go_grown)).row (s.out.alloc _) d
     rw [List.mem_singleton.1 B];exact (HR7.out.later (by go_grown)).row (s.out.alloc _) d
    have HO5:Hid (w5.ownsRow w2.heap.size 26 1 v' (k+1) (cT (xs ++ [(⟨T,A7,M⟩:RL)]))):=by
     show World.ownsRow ..
     rw [ic];have e:cT [(⟨T,A7,M⟩:RL)]=[.slice A7 tl M]:=by simp [cT,HTl.out]
     rw [e];exact r
    clear r d;go_wp2_with fail
    go_roundg (PN-(k+1))
    case measure=>omega
    case rel=>exact ⟨k+1,_,by omega,rfl,by go_num,HX5,HO5.out,HB5.out⟩
  have hke:k=PN:=by omega
  subst hke;have HF:Hid (∃ A' a,u4=.slice A' k a∧db wr A' a xs):=by
   have f:=L.out.1;have h:=hO;rw [←f] at h;obtain ⟨A',a,e,hv⟩:=pR h L.out.2.2;rw [f] at e;exact ⟨A',a,e,hv⟩
  clear hO l;go_wp2_with fail;go_ret;obtain ⟨A',a,e,hv⟩:=HF.out;exact ⟨⟨A',a,xs,by rw [←e];rfl,L.out.1,hv,L.out.2.1⟩,ae I.out (ae U.out (ae J.out K.out))⟩
noncomputable def uN (d:Dm) (m:Nat):List Int:=if (d.mem m).formula.size=0 then ep d m else (aX (bI (d.mem m).formula)).map (whL d)
theorem zt {d:Dm} {m:Nat} {x:WL} (h:fK d m x):x.ne=uN d m:=by
 unfold uN
 by_cases a:(d.mem m).formula.size=0
 ·rw [if_pos a];exact (h.1 a).2.2.2.1
 rw [if_neg a];exact (h.2 a).2.2.2.1
theorem FA {d:Dm} (j:(bv d).2=0) {m:Nat} (i:m<d.n):((uN d m).mergeSort fun x y=>decide (x≤y))=ep d m:=by
 obtain ⟨k,c,-,-⟩:=bJ j;unfold uN
 by_cases f:(d.mem m).formula.size=0
 ·rw [if_pos f]
  exact jb _ _ (by
   have g:List.Pairwise (fun a b=>a≠b) ((ep d m).mergeSort fun x y=>decide (x≤y)):=(List.mergeSort_perm _ _).symm.pairwise ((iC d m).imp fun h=>by omega) fun {a b} h e=>h e.symm
   exact ((lN _).and g).imp fun h=>by omega) (iC d m) fun z=>(List.mergeSort_perm _ _).mem_iff
 rw [if_neg f];exact rO k f (c m i) (fA f (c m i))
theorem uO {d:Dm} (a:(bv d).2=0) {m:Nat} (b:m<d.n):(uN d m).Perm (ep d m):=by
 rw [←FA a b];exact (List.mergeSort_perm _ _).symm
theorem nK {d:Dm} (a:(bv d).2=0) {m:Nat} (b:m<d.n) (z:Int):z∈uN d m↔z∈ep d m:=(uO a b).mem_iff
section
variable {D:Nat→Dm} {n:Nat}
theorem IH (l:(am D n).2.2=0) {x b j:Nat} (c:b<n) (p:x<prodN D n) (o:j<(D b).n):∃ y:Nat,(x:Int)+((j:Int)-(x / cA D n b % (D b).n:Nat))*(cA D n b:Int)=y∧y<prodN D n∧aj D n y=(aj D n x).set b j:=by
 obtain ⟨-,-,-,m⟩:=au l;obtain ⟨y,d,f,g,k⟩:=yo (D:=D) (n:=n) (dim:=b) (x:=x) (j:=j) (fun i a=>(m i a).1) c p rfl o
 refine ⟨y,d,f,?_⟩;apply List.ext_getElem?;intro i
 by_cases a:i<n
 ·rw [List.getElem?_set]
  simp only [placeL_len,c,if_true]
  by_cases e:b=i
  ·subst e
   rw [if_pos rfl];have:bC D n y b=j:=by rw [iW c];exact g
   simp [aj,a,this]
  rw [if_neg e];have:=k i a (fun h=>e h.symm)
  simp [aj,a,this]
 rw [List.getElem?_eq_none (by rw [placeL_len];omega),List.getElem?_eq_none (by rw [List.length_set,placeL_len];omega)]
def jk (D:Nat→Dm) (n x b:Nat) (k:Int):Int:=numI D ((aj D n x).set b k) n
theorem lz (e:(am D n).2.2=0) {x b:Nat} (g:b<n) (h:x<prodN D n) {k:Int} (f:0≤k) (i:k<((D b).n:Int)):∃ y:Nat,jk D n x b k=(y:Int)∧y<prodN D n∧aj D n y=(aj D n x).set b k∧(x:Int)+(k-(x / cA D n b % (D b).n:Nat))*(cA D n b:Int)=y:=by
 obtain ⟨y,c,d,a⟩:=IH e g h (j:=k.toNat) (by omega)
 rw [Int.toNat_of_nonneg f] at c a;exact ⟨y,by unfold jk;rw [←a];exact mB e d,d,a,c⟩
theorem C3 (a:(am D n).2.2=0) {x b:Nat} (c:b<n) (d:x<prodN D n) {i k:Int} (l:0≤i) (m:i<((D b).n:Int)) (o:0≤k) (p:k<((D b).n:Int)) (h:i<k):jk D n x b i<jk D n x b k:=by
 obtain ⟨-,-,-,q⟩:=au a;obtain ⟨y,e,-,-,f⟩:=lz a c d l m;obtain ⟨z,g,-,-,j⟩:=lz a c d o p;have s:=iN (D:=D) (n:=n) (fun i r=>(q i r).1) c
 rw [e,g,←f,←j];have t:(i-((x / cA D n b % (D b).n:Nat):Int))*(cA D n b:Int)<(k-((x / cA D n b % (D b).n:Nat):Int))*(cA D n b:Int):=Int.mul_lt_mul_of_pos_right (by omega) (by omega)
 omega
noncomputable def ndsX (D:Nat→Dm) (n x:Nat):List Int:=if byTo D (aj D n x) n<0 then [] else (uN (D (byTo D (aj D n x) n).toNat) ((aj D n x).getD (byTo D (aj D n x) n).toNat 0).toNat).map (jk D n x (byTo D (aj D n x) n).toNat)
theorem pn {x:Nat} (h:byTo D (aj D n x) n<0):ndsX D n x=[]:=by unfold ndsX;rw [if_pos h]
theorem pm {x b:Nat} (h:byTo D (aj D n x) n=(b:Int)):ndsX D n x=(uN (D b) ((aj D n x).getD b 0).toNat).map (jk D n x b):=by unfold ndsX;rw [h,if_neg (by omega),Int.toNat_natCast]
theorem iD (v:dI D n) (t:(am D n).2.2=0) {x:Nat} (E:x<prodN D n):eM D n (aj D n x) ((ndsX D n x).mergeSort fun a b=>decide (a≤b)):=by
 have u:=bZ (D:=D) (n:=n) (x:=x) t
 rcases by_in D (aj D n x) n with h | ⟨b,h,f⟩
 ·rw [pn (by omega),List.mergeSort_nil]
  refine ⟨List.Pairwise.nil,zU,fun z=>⟨fun F=>absurd F (by simp),?_⟩⟩
  rintro ⟨b,f,-⟩
  omega
 obtain ⟨y,A,-,-⟩:=bJ (v b f);obtain ⟨-,-,j,-⟩:=aI y;have B:=u.lo b f;have C:=u.hi b f;have w:((aj D n x).getD b 0).toNat<(D b).n:=by omega
 rw [pm h];obtain ⟨m,c⟩:=az (((aj D n x).getD b 0).toNat);rw [c] at w ⊢;have q:=(uO (v b f) w).map (jk D n x b);have d:=(List.mergeSort_perm ((uN (D b) m).map (jk D n x b)) fun a b=>decide (a≤b)).trans q
 have p:List.Pairwise (fun a b=>a≠b) ((ep (D b) m).map (jk D n x b)):=by
  rw [List.pairwise_map];refine List.Pairwise.imp_of_mem (R:=fun a b=>a<b) (fun {i k} hi g l e=>?_) (iC (D b) m)
  have r:=eo hi;have s:=eo g;have:=C3 t f E r.1 r.2 s.1 s.2 l
  omega
 have o:=d.symm.pairwise p fun {a b} h e=>h e.symm
 refine ⟨((lN _).and o).imp fun h=>by omega,?_,fun z=>?_⟩
 ·rw [d.length_eq,List.length_map]
  exact zV (cG _ _) j
 rw [d.mem_iff,List.mem_map]
 constructor
 ·rintro ⟨k,g,rfl⟩
  exact ⟨b,h,k,by rw [c];exact g,rfl⟩
 rintro ⟨b',G,k,g,rfl⟩;have:b'=b:=by omega
 subst this;rw [c] at g;exact ⟨k,g,rfl⟩
theorem nJ (b:dI D n) (a:(am D n).2.2=0) {x:Nat} (c:x<prodN D n):(ndsX D n x).length≤12:=by
 have:=(iD b a c).2.1;rw [List.length_mergeSort] at this;exact this
theorem xO (i:dI D n) (d:(am D n).2.2=0) {x:Nat} (p:x<prodN D n):∀ z∈ndsX D n x,∃ y:Nat,z=(y:Int)∧y<prodN D n:=by
 intro z c;have e:=bZ (D:=D) (n:=n) (x:=x) d
 rcases by_in D (aj D n x) n with h | ⟨b,h,hb⟩
 ·rw [pn (by omega)] at c;cases c
 have m:=e.lo b hb;have o:=e.hi b hb;have l:((aj D n x).getD b 0).toNat<(D b).n:=by omega
 rw [pm h,List.mem_map] at c;obtain ⟨k,j,rfl⟩:=c;have a:=eo ((nK (i b hb) l k).1 j);obtain ⟨y,f,g,-⟩:=lz d hb p a.1 a.2;exact ⟨y,f,g⟩
noncomputable def qn (D:Nat→Dm) (n:Nat) (L:List (Int×Int)) (x:Nat):Int×Int:=if byTo D (aj D n x) n<0 then L.getD x noC else ew (D (byTo D (aj D n x) n).toNat) (fun k=>L.getD (jk D n x (byTo D (aj D n x) n).toNat k).toNat noC) ((aj D n x).getD (byTo D (aj D n x) n).toNat 0).toNat
theorem Bt {L:List (Int×Int)} {x:Nat} (h:byTo D (aj D n x) n<0):qn D n L x=L.getD x noC:=by unfold qn;rw [if_pos h]
theorem I2 {L:List (Int×Int)} {x b:Nat} (h:byTo D (aj D n x) n=(b:Int)):qn D n L x=ew (D b) (fun k=>L.getD (jk D n x b k).toNat noC) ((aj D n x).getD b 0).toNat:=by unfold qn;rw [h,if_neg (by omega),Int.toNat_natCast]
theorem GF (d:dI D n) (f:(am D n).2.2=0) {inp:List Int→Int×Int} {L:List (Int×Int)} {x:Nat} (t:x<prodN D n) (m:byTo D (aj D n x) n<0→L.getD x noC=inp (aj D n x)) (o:∀ z∈ndsX D n x,L.getD z.toNat noC=ez D n inp (aj D n z.toNat)):qn D n L x=ez D n inp (aj D n x):=by
 have c:=bZ (D:=D) (n:=n) (x:=x) f
 rcases by_in D (aj D n x) n with h | ⟨b,h,hb⟩
 ·rw [Bt (by omega),fR inp (by omega)]
  exact m (by omega)
 obtain ⟨q,e,-,-⟩:=bJ (d b hb);have r:=c.lo b hb;have s:=c.hi b hb;have i:((aj D n x).getD b 0).toNat<(D b).n:=by omega
 rw [I2 h,p9 d inp c h];refine iF q (e _ i) fun k g=>?_
 have a:=eo g;obtain ⟨y,j,u,l,-⟩:=lz f hb t a.1 a.2;have p:=o (jk D n x b k) (by rw [pm h,List.mem_map];exact ⟨k,(nK (d b hb) i k).2 g,rfl⟩)
 rw [p,j,Int.toNat_natCast,l]
end
end Go.Proofs.YtohgnbgamfepoaaGreatDoor
namespace Go.Proofs.YtohgnbgamfepoaaGreatDoor
open Go.ChangeShapes Go.WideShapes Go.ChangeAt Go.RowKit
open Go.Sort (putRow Holds grow holds_putRow)
set_option maxRecDepth 20000
theorem Cw (f:Int→Int) (P:List Int) {k:Nat} (h:k<P.length):(P.take (k+1)).map f=(P.take k).map f ++ [f (P.getD k 0)]:=by
 rw [List.take_succ_eq_append_getElem h,List.map_append,zZ,zX h]
 rfl
theorem Ft (f:Int→Int×Int) (P:List Int) {k:Nat} (h:k<P.length):(P.take (k+1)).map f=(P.take k).map f ++ [f (P.getD k 0)]:=by
 rw [List.take_succ_eq_append_getElem h,List.map_append,zZ,zX h]
 rfl
theorem gl {P:List Int} {k:Nat} (h:k<P.length):P.getD k 0∈P:=by
 rw [zZ,zX h];exact List.getElem_mem h
theorem mx (q g n:Nat) (D:Nat→Dm) (X:Nat→AL) (x:Nat) (w:World) (hR:dI D n) (R:(am D n).2.2=0) (hx:x<prodN D n) (G:cJ w q g n D X) :
  Calls Tryz.prog 79 #[.pointer (some ⟨q,0,none⟩),.int .i64 x] w fun e w'=>(∃ v,e=.returned v∧w'.ownsRow w.heap.size 3 1 v (ndsX D n x).length (aE (ndsX D n x)))∧Bl w w':=by
 obtain ⟨i0,hi0,hz0,hz1,hz2⟩:=info_parts Tryz.infoInt;obtain ⟨hn1,hn4,hp3,hd⟩:=au R;have r:=sj q g n D X x w R hx G;have HA:=aa G;obtain ⟨hq,q0,q1⟩:=G.cells;have hnI:(n:Int)≤4:=by omega
 have hxI:(x:Int)≤3000:=by omega
 have hP:=bZ (D:=D) (n:=n) (x:=x) R
 rcases by_in D (aj D n x) n with h | ⟨b,h,hb⟩
 ·have HNl:Hid (ndsX D n x=[]):=pn (by omega)
  rw [h] at r;clear G R hR hP h q0 q1
  go_enter Tryz.func79,Tryz.ntmps79
  go_wp2_with fail;refine r.mono ?_;rintro e w1 ⟨rfl,d⟩;have HB1:=aa d;clear d r;go_wp2_with fail;go_ret;rw [HNl.out];exact ⟨⟨_,rfl,World.ownsRow_nil _ _ _ _⟩,HB1.out⟩
 obtain ⟨K,p⟩:=hd b hb;have hp0:=hP.lo b hb;have hp1:=hP.hi b hb;obtain ⟨m,hm⟩:=az (x / cA D n b % (D b).n);have hpm:((aj D n x).getD b 0).toNat=m:=by rw [oI hb,hm]
 have E:m<(D b).n:=by rw [←hm];exact Nat.mod_lt _ K
 have B:Hid (ndsX D n x=(uN (D b) m).map (jk D n x b)):=by show _=_;rw [pm h,hpm]
 have M:(uN (D b) m).length≤12:=by
  have:=nJ hR R hx;rw [B.out,List.length_map] at this;exact this
 have l:Hid (∀ k∈uN (D b) m,∃ j y:Nat,k=(j:Int)∧j<(D b).n∧jk D n x b k=(y:Int)∧y<prodN D n∧(x:Int)+((j:Int)-(m:Int))*(cA D n b:Int)=y):=fun k hk=>by
  have U:=eo ((nK (hR b hb) E k).1 hk);obtain ⟨y,e1,e2,-,e4⟩:=lz R hb hx U.1 U.2;rw [hm] at e4;exact ⟨k.toNat,y,by omega,by omega,e1,e2,by rw [Int.toNat_of_nonneg U.1];exact e4⟩
 have hSp:=iN (D:=D) (n:=n) (fun i hi=>(hd i hi).1) hb
 obtain ⟨S,a⟩:=az (cA D n b);have HMb:Hid (∀ w',Rt 117 #[.agg #[.int .i64 (D b).solve,.int .i64 S,.slice (X b).A (D b).n (X b).c],.int .i64 x] w' (.int .i64 m)):=fun w'=>mZ (D b) S (X b) x m w' (by rw [←a];exact hSp) K p (by omega) (by rw [←a];exact hm)
 have Q:Hid (∀ w',Bl w w'→Rt 80 #[.agg #[.int .i64 (D b).solve,.int .i64 S,.slice (X b).A (D b).n (X b).c],.int .i64 x] w' (wayV ((X b).xs.getD m eW))):=fun w' hB=>tq (D b) S (X b) x m w' (by rw [←a];exact hSp) K p (by omega) (by rw [←a];exact hm) ((G.later hB).2.one hb).2.2
 have J:Hid (∀ w',Bl w w'→aR w' ((X b).xs.getD m eW).Ai ((X b).xs.getD m eW).ci (uN (D b) m)):=fun w' hB=>by
  obtain ⟨-,-,o⟩:=(G.later hB).2.one hb;obtain ⟨-,-,-,-,-,hWt⟩:=o.way E;have:=hWt.2.2.1;rw [zt (o.2.2 m E)] at this;exact this
 have s:∀ w',(Instr.field 155 (wayV ((X b).xs.getD m eW)) 3).run Tryz.prog w'=.ok (.slice ((X b).xs.getD m eW).Ai (uN (D b) m).length ((X b).xs.getD m eW).ci) w':=fun w'=>by
  obtain ⟨-,-,o⟩:=G.2.one hb;rw [xj,zt (o.2.2 m E)]
 have HCp:Hid (∀ w',Bl w w'→q<w'.heap.size∧g<w'.heap.size∧w'.cell? ⟨q,0,none⟩=some (.slice (some ⟨g,0,none⟩) n n)∧w'.cell? ⟨g,b*3,none⟩=some (.int .i64 (D b).solve)∧w'.cell? ⟨g,b*3+1,none⟩=some (.int .i64 S)∧w'.cell? ⟨g,b*3+2,none⟩=some (.slice (X b).A (D b).n (X b).c)):=fun w' hB=>by
  obtain ⟨a1,a2,-⟩:=(G.later hB).cells;obtain ⟨hg,⟨c0,c1,c2⟩,-⟩:=(G.later hB).2.one hb;rw [a] at c1;exact ⟨a1,hg,a2,c0,c1,c2⟩
 obtain ⟨P,hPn⟩:=az (uN (D b) m);obtain ⟨f,hf⟩:=az (jk D n x b);obtain ⟨z,hz⟩:=az ((X b).xs.getD m eW);rw [hPn] at B M l J s;rw [hf] at B l;rw [hz] at Q J s;rw [a] at l;obtain ⟨N,hN⟩:=az P.length;have HN:=aa hN;rw [hN] at M s;have hNI:(N:Int)≤12:=by omega
 have hbI:(b:Int)<(n:Int):=by omega
 have hb0:((b:Int) == -1)=false:=by simp
 have hmI:(m:Int)<12:=by omega
 have HX3:=aa hp3;have HDn:=aa p;rw [h] at r;obtain ⟨ai,hai⟩:=az z.Ai;obtain ⟨ci,hci⟩:=az z.ci;rw [hai,hci] at J s;generalize wayV z=wv at s Q;clear G R hR hP h hp0 hp1 hm hpm E a hPn hf hz hN hd q0 q1 p K hai hci
 go_enter Tryz.func79,Tryz.ntmps79
 go_wp2_with fail;refine r.mono ?_;rintro e w1 ⟨rfl,d⟩;have HB1:=aa d;obtain ⟨hq1,hg1,a0,a1,a2,a3⟩:=HCp.out w1 d;obtain ⟨v,hv⟩:=az (w1.alloc (.cells #[.int .i64 (D b).solve,.int .i64 S,.slice (X b).A (D b).n (X b).c] 143));have u:v.heap[w1.heap.size]?=some (.cells #[.int .i64 (D b).solve,.int .i64 S,.slice (X b).A (D b).n (X b).c] 143 (0,0)):=by rw [←hv];exact heap_alloc_new ..
 have HVb:=aa u;have hBv:Bl w1 v:=by rw [←hv];go_grown
 have O:=aa (ae d hBv);have v0:v.cell? ⟨w1.heap.size,0,none⟩=some (.int .i64 (D b).solve):=by simp [World.cell?,u]
 have v1:v.cell? ⟨w1.heap.size,1,none⟩=some (.int .i64 S):=by simp [World.cell?,u]
 have v2:v.cell? ⟨w1.heap.size,2,none⟩=some (.slice (X b).A (D b).n (X b).c):=by simp [World.cell?,u]
 have hvs:w1.heap.size<v.heap.size:=(zY u).1;have hwy:=Q.out v O.out;clear d r u hBv;go_wp2_with fail;refine hwy.mono ?_;rintro e w2 ⟨rfl,hb2⟩;have H:=aa hb2;clear hb2 hwy v0 v1 v2 hv a0 a1 a2 a3;go_wp2_with fail;clear s
 go_loopg [7,27] N (fun gg s7 s27 wr => ∃ (k:Nat) (AO:Option Addr) (cO:Nat),k≤N∧gg=N-k∧s27=.int .i64 k∧s7=.slice AO k cO∧Hid (wr.ownsRow w2.heap.size 3 1 (.slice AO k cO) k (aE ((P.take k).map f)))∧Hid (Bl w2 wr))
 case atStart=>exact ⟨0,none,0,zU,rfl,rfl,rfl,World.ownsRow_nil _ _ _ _,zS⟩
 case round =>
  obtain ⟨k,AO,cO,hk,rfl,rfl,rfl,HO,I⟩:=hrel;have L:=aa (ae O.out (ae H.out I.out))
  by_cases hlt:k<N
  ·have hki:(k:Int)<(N:Int):=by omega
   have V:k<P.length:=by rw [HN.out];exact hlt
   obtain ⟨j,y,hj,hjn,hy,hyN,Z⟩:=l.out _ (gl V);obtain ⟨hcI,-,h0 | ⟨bi,cs,fr,hAi,hbi,hcl⟩⟩:=J.out wr L.out
   ·have:=HN.out;rw [h0] at this;simp at this;omega
   have cx:=hcl k V;have hbil:bi<wr.heap.size:=(zY hbi).1;rw [HN.out] at hcI;rw [hj] at cx;have hcII:(N:Int)≤(ci:Int):=by omega
   have HNx:Hid ((P.take (k+1)).map f=(P.take k).map f ++ [(y:Int)]):=by show _=_;rw [Cw f P V,hy]
   have hyI:(y:Int)≤3000:=by have:=HX3.out;omega
   obtain ⟨t1,W⟩:∃ t:Int,(j:Int)-(m:Int)=t:=⟨_,rfl⟩;obtain ⟨t2,Y⟩:∃ t:Int,t1*(S:Int)=t:=⟨_,rfl⟩;rw [W,Y] at Z;have hjI:(j:Int)≤3000:=by have:=HDn.out;omega
   have hw1:IntKind.i64.wrap ((j:Int)-(m:Int))=t1:=by rw [W];exact IntWalk.i64_in _ (by omega)
   have hw2:IntKind.i64.wrap (t1*(S:Int))=t2:=by rw [Y];exact IntWalk.i64_in _ (by omega)
   have hw3:IntKind.i64.wrap ((x:Int)+t2)=(y:Int):=by rw [Z];exact IntWalk.i64_in _ (by omega)
   have HC:Hid (∀ w',Bl wr w'→w'.cell? ⟨w1.heap.size,0,none⟩=some (.int .i64 (D b).solve)∧w'.cell? ⟨w1.heap.size,1,none⟩=some (.int .i64 S)∧w'.cell? ⟨w1.heap.size,2,none⟩=some (.slice (X b).A (D b).n (X b).c)):=fun w' h=>by
    have T:=((ae H.out (ae I.out h)).block w1.heap.size hvs).trans HVb.out;exact ⟨by simp [World.cell?,T],by simp [World.cell?,T],by simp [World.cell?,T]⟩
   obtain ⟨p0,p1,p2⟩:=HC.out wr (zS);have hs7:=I.out.size;have hs8:=H.out.size;have hax:w1.heap.size<wr.heap.size:=by omega
   have HFin:Hid (∀ (w4 w6:World) (o':Obj) (A6:Option Addr) (c6:Nat),Bl wr w4→w6.ownsRow w2.heap.size 3 1 (.slice A6 (k+1) c6) (k+1) (aE ((P.take k).map f) ++ [.int .i64 (y:Int)])→(w4.alloc o').grownBy w6 (Value.slice AO k cO).ownBlock→Hid (w6.ownsRow w2.heap.size 3 1 (.slice A6 (k+1) c6) (k+1) (aE ((P.take (k+1)).map f)))∧Hid (Bl w2 w6)):=fun w4 w6 o' A6 c6 h4 h6 hg=>by
    refine ⟨?_,bD (ae I.out h4) (an HO.out h4) hg⟩
    show World.ownsRow ..
    rw [HNx.out,mapI_snoc];exact h6
   clear hcl hbi hj hy Z W Y hyN hjn;subst hAi;go_wp2_with fail
   go_region_law ((first
    | (refine step_append_lies _ (by rfl) _ _ _ (by rfl) w2.heap.size 3 i0 _ 1 8 Tryz.underlying26 hi0 hz0 hz1 hz2 rfl (by omega) (.slice AO k cO) k (aE ((P.take k).map f)) (by rfl) (an HO.out (by go_grown)) ⟨w4.heap.size,0,none⟩ 1 1 [.int .i64 y] (by rfl) (by rfl) (World.news_of_block (cs := #[.int .i64 y]) (t:=3) (fr:=(0,0)) (heap_alloc_new w4 _)) (by simp [Value.oneCell']) (by omega) (by unfold maxLen;omega) (by omega) (by simp;omega) (w4.heap.size+1) (by simp) ?_;intro gg cg w6 F C hat hlt6)
    | (go_simp;refine (HMb.out _).mono ?_;rintro e w4 ⟨rfl,hb4⟩;have hN4:=ae (W0:=wr) (by go_grown) hb4;have hs4:=hN4.size;obtain ⟨x0,x1,x2⟩:=HC.out _ hN4;clear hb4)))
   all_goals (obtain ⟨HO6,HB6⟩:=HFin.out _ _ _ _ _ (by go_grown) F C)
   all_goals clear F C hat
   all_goals go_wp2_with fail
   all_goals go_roundg (N-(k+1))
   all_goals first | omega | exact ⟨k+1,_,_,by omega,rfl,by go_num,rfl,HO6,HB6⟩
  have hke:k=N:=by omega
  subst hke;have HF:Hid (wr.ownsRow w.heap.size 3 1 (.slice AO k cO) (ndsX D n x).length (aE (ndsX D n x))):=by
   have h:=HO.out;rw [List.take_of_length_le (by rw [HN.out];exact zT),←B.out] at h
   have hl:(ndsX D n x).length=k:=by rw [B.out,List.length_map];exact HN.out
   show World.ownsRow ..
   rw [hl];exact nQ h (by have:=H.out.size;have:=O.out.size;omega)
  go_wp2_with fail;go_ret;exact ⟨⟨_,rfl,HF.out⟩,L.out⟩
theorem yv (q g n:Nat) (D:Nat→Dm) (X:Nat→AL) (x:Nat) (w:World) (E:dI D n) (t:(am D n).2.2=0) (H:x<prodN D n) (P:cJ w q g n D X) :
  Calls Tryz.prog 115 #[.pointer (some ⟨q,0,none⟩),.int .i64 x] w fun e w'=>(∃ A' O T,e=.returned (.tuple #[.slice A' T.length O,.nilIface])∧aR w' A' O T∧eM D n (aj D n x) T∧(∀ z,z∈T↔z∈ndsX D n x)∧∀ a,A'=some a→w.heap.size≤a.block)∧Bl w w':=by
 obtain ⟨hn1,hn4,Y,hd⟩:=au t;obtain ⟨hq,q0,q1⟩:=P.cells;have l:=mx q g n D X x w E t H P;have C:=aa (iD E t H);have j:Hid (∀ z,z∈((ndsX D n x).mergeSort fun a b=>decide (a≤b))↔z∈ndsX D n x):=fun z=>(List.mergeSort_perm _ _).mem_iff
 have hl:=nJ E t H;obtain ⟨N,Z⟩:=az (prodN D n);rw [Z] at q1 H Y;have hxI:(x:Int)<(N:Int):=by omega
 have hNI:(N:Int)≤3000:=by omega
 obtain ⟨zs,B⟩:=az (ndsX D n x);rw [B] at l C hl j ⊢;obtain ⟨k,G⟩:=az zs.length;have K:=aa G;have i:Hid ((zs.mergeSort fun a b=>decide (a≤b)).length=k):=by show _=_;rw [List.length_mergeSort];exact G
 rw [G] at l hl;clear B t E P hd Z G
 go_enter Tryz.func115,Tryz.ntmps115
 go_wp2_with fail;refine l.mono ?_;rintro e w1 ⟨⟨v,rfl,u⟩,A⟩;have p:=aa A;clear A l q0 q1
 by_cases hz:v=.slice none 0 0
 ·subst hz
  have W:k=0:=by
   rcases u.2 with ⟨_,h⟩ | ⟨g,c,f,h,_⟩
   ·exact h
   cases h
  subst W;have d:=Any.slices_Sort_int_none Tryz.lays189 none 0 w1;have M:Hid ((zs.mergeSort fun a b=>decide (a≤b))=[]):=List.eq_nil_of_length_eq_zero i.out
  clear u;go_wp2_with fail;refine Calls.mono d ?_;rintro e w4 ⟨rfl,rfl⟩;go_wp2_with fail;go_returns;refine ⟨⟨none,0,(zs.mergeSort fun a b=>decide (a≤b)),by rw [i.out];rfl,by rw [M.out];exact aR.nil _ _ _ (by omega),C.out,j.out,fun a R=>(by cases R)⟩,p.out⟩
 obtain ⟨gg,c,hv,U,V,hnc,S,-,Q⟩:=Lib.holds_of_ownsRow (enc:=Value.int .i64) (zs:=zs) u hz;subst hv;obtain ⟨f,F⟩:∃ f:Array Value,w1.heap[gg]?=some (.cells f 3 (0,0)):=by
  rcases u.2 with ⟨h,_⟩ | ⟨g',O,f,h,_,F,_⟩
  ·cases h
  cases h;exact ⟨f,F⟩
 have d:=Any.slices_Sort_int Tryz.lays189 gg 0 c zs w1 Q V (by have:=K.out;omega)
 rw [K.out] at d;have s:Hid (∀ m os,aR (grow (putRow (Value.int .i64) (Sort.ahead w1 m) gg 0 (zs.mergeSort fun x y=>decide (x≤y)).toArray) os) (some ⟨gg,0,none⟩) c (zs.mergeSort fun x y=>decide (x≤y))):=fun m os=>nt F Q (by rw [List.length_mergeSort]) (by have:=K.out;omega) (by unfold maxLen at S;omega)
 have r:Hid (∀ m os,Bl w (grow (putRow (Value.int .i64) (Sort.ahead w1 m) gg 0 (zs.mergeSort fun x y=>decide (x≤y)).toArray) os)):=fun m os=>ip p.out (by omega)
 generalize hys:(zs.mergeSort fun x y=>decide (x≤y))=ys at d s r C j i
 clear u Q F hys;go_wp2_with fail;refine Calls.mono d ?_;rintro e w4 ⟨rfl,m,os,o⟩;have L:Hid (aR w4 (some ⟨gg,0,none⟩) c ys):=by rw [o];exact s.out m os
 have I:Hid (Bl w w4):=by rw [o];exact r.out m os
 have J:=aa U;clear o d;go_wp2_with fail;go_returns;exact ⟨⟨_,c,ys,by rw [i.out];rfl,L.out,C.out,j.out,fun a R=>(by cases R;exact J.out)⟩,I.out⟩
end Go.Proofs.YtohgnbgamfepoaaGreatDoor
