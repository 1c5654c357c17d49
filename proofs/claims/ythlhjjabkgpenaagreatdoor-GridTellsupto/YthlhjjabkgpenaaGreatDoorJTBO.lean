/- What Lines of package -/
import Derived.Test.YthlhjjabkgpenaaGreatDoorJTBK
import Derived.Test.YthlhjjabkgpenaaGreatDoorJTBN
namespace Go.Proofs.YthlhjjabkgpenaaGreatDoor
open ChangeShapes WideShapes ChangeAt RowKit
set_option maxRecDepth 99999
set_option maxHeartbeats 0
def kD (dr dc:Dm) (R K:List Int) (Z:List (List (Int×Int))):List ByteArray:=lnB ⟨#[45]⟩ (tj dc.mem K) :: (List.range R.length).map fun i=>lnB (dr.mem (R.getD i 0).toNat).name ((Z.getD i []).map mQ)
def k8 (D:Nat→Dm) (n:Nat) (R K:List Int) (Z:List (List (Int×Int))) (row col:Int):Int:=if (ah D n).2.2≠0 then (ah D n).2.2 else if bI R.length K.length Z≠0 then bI R.length K.length Z else if aH n row=true∨aH n col=true then 1 else if R.any (aH (D row.toNat).n)=true∨K.any (aH (D col.toNat).n)=true then 1 else 0
def nS (D:Nat→Dm) (n:Nat) (R K:List Int) (Z:List (List (Int×Int))) (row col:Int):List ByteArray:=if k8 D n R K Z row col=0 then kD (D row.toNat) (D col.toNat) R K Z else []
section
variable {D:Nat→Dm} {n:Nat} {R K:List Int} {Z:List (List (Int×Int))} {row col:Int}
theorem G7 (h:(ah D n).2.2≠0):k8 D n R K Z row col=(ah D n).2.2:=by unfold k8;rw [if_pos h]
theorem G6 (h:(ah D n).2.2=0) (a:bI R.length K.length Z≠0):k8 D n R K Z row col=bI R.length K.length Z:=by unfold k8;rw [if_neg (by simpa using h),if_pos a]
theorem Kk (h:(ah D n).2.2=0) (a:bI R.length K.length Z=0) (b:aH n row=true∨aH n col=true):k8 D n R K Z row col=1:=by unfold k8;rw [if_neg (by simpa using h),if_neg (by simpa using a),if_pos b]
theorem Kj (h:(ah D n).2.2=0) (a:bI R.length K.length Z=0) (b:aH n row=false) (c:aH n col=false):k8 D n R K Z row col=if R.any (aH (D row.toNat).n)=true∨K.any (aH (D col.toNat).n)=true then 1 else 0:=by unfold k8;rw [if_neg (by simpa using h),if_neg (by simpa using a),if_neg (by rw [b,c];decide)]
theorem jl (h:k8 D n R K Z row col≠0):nS D n R K Z row col=[]:=by unfold nS;rw [if_neg h]
theorem lns_len (b a:Dm):(kD b a R K Z).length=R.length+1:=by simp [kD]
theorem m7 {L:List Int} {m:Nat} (h:L.any (aH m)=false):∀ k∈L,∃ j:Nat,k=j∧j<m:=fun k a=>eL (by simpa using List.any_eq_false.1 h k a)
theorem iB (h:(ah D n).2.2=0) {i j:Nat} (c:i<n) (d:j<(D i).n):((D i).mem j).name.size≤30:=by
 have a:=(aG ((eA h).2 i c)).2.2.2 j d;have b:aJ ((D i).mem j).name=0:=by
  unfold aS at a
  split at a
  ·cases a
  rename_i h3;simpa using h3
 unfold aJ at b
 split at b
 ·cases b
 omega
end
theorem tK (a b:Dm) (R K:List Int) (Z:List (List (Int×Int))) {k:Nat} (h:k<R.length):((kD a b R K Z).map Value.string).take (k+1+1)=((kD a b R K Z).map Value.string).take (k+1) ++ [.string (lnB (a.mem (R.getD k 0).toNat).name ((Z.getD k []).map mQ))]:=by
 rw [List.take_succ_eq_append_getElem (by simp [kD];omega)]
 simp [kD]
theorem Eh {w:World} {base n:Nat} {v:Value} {L:List ByteArray} (h:w.ownsRow base 9 1 v n (L.map Value.string)) (a:L.length=n) (k:n≤1048577):∃ A c,v=.slice A n c∧k9 w A c L:=by
 rcases str_cells h a with ⟨rfl,rfl⟩ | ⟨g,c,rfl,i,d,e,f⟩
 ·simp at a
  subst a;exact ⟨none,0,rfl,zT,by simp,by omega,Or.inl rfl⟩
 refine ⟨_,c,rfl,by omega,by omega,d,Or.inr ⟨g,0,rfl,e,fun j b=>?_⟩⟩
 rw [f j _ (zX b)]
 simp [List.getD,b]
theorem k9.none0 (w:World):k9 w none 0 []:=⟨zT,by simp,by omega,Or.inl rfl⟩
def G8 (w:World) (o u v z:Value):World:=(w.alloc (.cells #[o] 24)).alloc (.cells #[u,v,z] 30)
theorem DQ (w:World) (o u v z:Value):(G8 w o u v z).heap[w.heap.size]?=some (.cells #[o] 24 (0,0))∧(G8 w o u v z).heap[w.heap.size+1]?=some (.cells #[u,v,z] 30 (0,0)):=by
 have a:(w.alloc (.cells #[o] 24)).heap[w.heap.size]?=some (.cells #[o] 24 (0,0)):=heap_alloc_new ..;have b:(w.alloc (.cells #[o] 24)).heap.size=w.heap.size+1:=by simp
 refine ⟨(Below.heap_alloc _ _ _ (by omega)).trans a,?_⟩
 rw [←b];exact heap_alloc_new ..
theorem qv (w:World) (o u v z:Value):Bl w (G8 w o u v z):=by unfold G8;go_grown
theorem vM (A0:Option Addr) (cap n:Nat) (D:Nat→Dm) (A:Nat→Option Addr) (C:Nat→Nat) (Ar:Option Addr) (R:List Int) (cr:Nat) (Ac:Option Addr) (K:List Int) (cc:Nat) (Ag:Option Addr) (cg:Nat) (f:List CsL) (row a:Int) (w:World) (hn:f.length≤1048576) (hx:∀ x∈f,x.L.length≤1048576) (hR:R.length≤1048576) (hK:K.length≤1048576) (hE:rf w) (hM:bd w A0 cap n D A C) (hPr:aO w Ar cr R) (hPk:aO w Ac cc K) (hZ:eQ w Ag cg f) :
  Calls Tryz.prog 17 #[.agg #[.slice A0 n cap],.agg #[.slice Ar R.length cr,.slice Ac K.length cc,.slice Ag f.length cg],.int .i64 row,.int .i64 a] w fun e w'=>(∃ A' c',e=.returned (.tuple #[.slice A' (nS D n R K (lZ f) row a).length c',errV (k8 D n R K (lZ f) row a)])∧k9 w' A' c' (nS D n R K (lZ f) row a))∧Bl w w':=by
 obtain ⟨i0,hi0,hz0,hz1,hz2⟩:=info_parts Tryz.infoStrF;have hB0:=qv w (.slice A0 n cap) (.slice Ar R.length cr) (.slice Ac K.length cc) (.slice Ag f.length cg);obtain ⟨b1,b2⟩:=DQ w (.slice A0 n cap) (.slice Ar R.length cr) (.slice Ac K.length cc) (.slice Ag f.length cg);obtain ⟨W,hW⟩:=ax (G8 w (.slice A0 n cap) (.slice Ar R.length cr) (.slice Ac K.length cc) (.slice Ag f.length cg));rw [hW] at hB0 b1 b2;unfold G8 at hW;have hs:w.heap.size+1<W.heap.size:=(zY b2).1;have M:=mx A0 cap n D A C W (hM.later hB0);have g:=aa hB0;have V:Hid (∀ w',Bl W w'→w'.cell? ⟨w.heap.size,0,none⟩=some (.slice A0 n cap)∧w'.cell? ⟨w.heap.size+1,0,none⟩=some (.slice Ar R.length cr)∧w'.cell? ⟨w.heap.size+1,1,none⟩=some (.slice Ac K.length cc)∧w'.cell? ⟨w.heap.size+1,2,none⟩=some (.slice Ag f.length cg)∧w.heap.size+1<w'.heap.size):=fun w' h=>by
  have l:=(h.block _ (by omega)).trans b1
  obtain ⟨x0,x1,x2,-,-,-⟩:=de ((h.block _ hs).trans b2);exact ⟨(Lib.cell_of_heap l 0).trans rfl,x0,x1,x2,zW hs h.size⟩
 obtain ⟨k0,k1,k2,k3,-⟩:=V.out W (zS);have HM:=aa hM;have HPr:=aa hPr;have HPk:=aa hPk;have HZ:=aa hZ;have HTb:=aa hE;have HX:=aa hx;obtain ⟨Z,hZz⟩:=ax (lZ f);have Lv:=aa hZz;rw [hZz];generalize (ah D n).1=x1 at M;generalize (ah D n).2.1=x2 at M;clear hB0 b1 b2 hM hPr hPk hZ hE hx hZz
 go_enter Tryz.func17,Tryz.ntmps17
 go_wp2_with fail;refine M.mono ?_;rintro e w1 ⟨b,O⟩
 by_cases hA:(ah D n).2.2=0
 case neg =>
  rw [aj hA] at b;subst b;have o:Hid (k8 D n R K Z row a=(ah D n).2.2∧nS D n R K Z row a=[]):=⟨G7 hA,jl (by rw [G7 hA];exact hA)⟩
  have U:=aa hA;clear M hA;go_wp2_with fail;go_returns;rw [o.out.1,o.out.2,aj U.out];exact ⟨⟨none,0,rfl,k9.none0 _⟩,ae g.out O⟩
 rw [hA,errV_zero] at b;subst b;have U:=aa hA;have HW1:=aa O;have y:=j9 Ar R.length cr Ac K.length cc Ag cg f w1 hn HX.out (HZ.out.later (ae g.out O));rw [Lv.out] at y;obtain ⟨d0,d1,d2,d3,d4⟩:=V.out w1 O;clear O M hA k0 k1 k2 k3;go_wp2_with fail;refine y.mono ?_;rintro e w2 ⟨b,hb2⟩;have J:=ae HW1.out hb2
 by_cases p:bI R.length K.length Z=0
 case neg =>
  rw [aj p] at b;subst b;have o:Hid (k8 D n R K Z row a=bI R.length K.length Z∧nS D n R K Z row a=[]):=⟨G6 U.out p,jl (by rw [G6 U.out p];exact p)⟩
  have HG:=aa p;have HW2:=aa J;clear y p hb2 J;go_wp2_with fail;go_returns;rw [o.out.1,o.out.2,aj HG.out];exact ⟨⟨none,0,rfl,k9.none0 _⟩,ae g.out HW2.out⟩
 rw [p,errV_zero] at b;subst b;have HG:=aa p;obtain ⟨f0,f1,f2,f3,f4⟩:=V.out w2 J;obtain ⟨y2,hy2⟩:=ax (w2.alloc (.cells #[.int .i64 row,.int .i64 a] 3));have hBy2:Bl w2 y2:=by rw [←hy2];go_grown
 have hyb2:y2.heap[w2.heap.size]?=some (.cells #[.int .i64 row,.int .i64 a] 3 (0,0)):=by rw [←hy2];exact heap_alloc_new ..
 have hPb:PB y2 w2.heap.size [row,a]:=⟨_,hyb2,fun j T=>by
  match j,T with
  | 0,_=>rfl
  | 1,_=>rfl⟩
 have t:=ge (some ⟨w2.heap.size,0,none⟩) 2 [row,a] n y2 (by simp) (hPb.pl (by simp))
 rw [yi] at t;simp only [List.length_cons,List.length_nil,Nat.zero_add,Nat.reduceAdd] at t;have I:=aa (ae J hBy2);obtain ⟨q0,-,-,-,q4⟩:=V.out y2 I.out;have hq0:w.heap.size<y2.heap.size:=by omega
 clear hb2 J y p hBy2 hyb2 hPb d0 d1 d2 d3 d4;go_wp2_with fail;refine t.mono ?_;rintro e w3 ⟨b,hb3⟩;have hW3:=ae I.out hb3;have Lt:=aa hW3;clear hb3 t I q0 hq0 f0 f1 f2 f3 f4 hy2 q4;cases hob:(aH n row || aH n a) with
 | true =>
  rw [hob] at b;subst b;have o:Hid (k8 D n R K Z row a=1∧nS D n R K Z row a=[]):=by
   have l:k8 D n R K Z row a=1:=Kk U.out HG.out (by simpa using hob)
   exact ⟨l,jl (by rw [l];omega)⟩
  clear hob hW3;go_wp2_with fail;go_returns;rw [o.out.1,o.out.2];exact ⟨⟨none,0,rfl,k9.none0 _⟩,ae g.out Lt.out⟩
 | false =>
  rw [hob] at b;subst b;obtain ⟨ho1,ho2⟩:aH n row=false∧aH n a=false:=by simpa using hob
  have hLi:=Kj (R:=R) (K:=K) (Z:=Z) U.out HG.out ho1 ho2;obtain ⟨i,hri,hi⟩:=eL ho1;obtain ⟨k,y,hk⟩:=eL ho2;subst hri;subst y;have X:Hid (R.any (aH (D i).n)=true∨K.any (aH (D k).n)=true→k8 D n R K Z (i:Int) (k:Int)=1):=fun h=>hLi.trans (if_pos h)
  have HL0:Hid (R.any (aH (D i).n)=false→K.any (aH (D k).n)=false→k8 D n R K Z (i:Int) (k:Int)=0):=fun l h2=>hLi.trans (if_neg fun h=>by
   rcases h with h | h
   ·exact absurd (l.symm.trans h) (by decide)
   exact absurd (h2.symm.trans h) (by decide))
  clear hLi;obtain ⟨hn1,hn4,-,hd⟩:=aw U.out;obtain ⟨hm1a,hm1⟩:=hd i hi;obtain ⟨hm2a,hm2⟩:=hd k hk;have s:=ae g.out hW3;obtain ⟨hcap,h0 | ⟨b0,o0,rfl,hDs⟩⟩:=HM.out.later s
  ·omega
  obtain ⟨-,-,e1,hMi⟩:=hDs.2 i hi;obtain ⟨-,-,e2,hMk⟩:=hDs.2 k hk;obtain ⟨hci,h0 | ⟨bi,oi,hAi,hMi⟩⟩:=hMi
  ·omega
  obtain ⟨hckk,h0 | ⟨bk,ok,hAk,hMk⟩⟩:=hMk
  ·omega
  have hbl:=hDs.1;have HMk:=aa hMk;have HNi:Hid (∀ j,j<(D i).n→((D i).mem j).name.size≤30):=fun j T=>iB U.out hi T
  have HNk:Hid (∀ j,j<(D k).n→((D k).mem j).name.size≤30):=fun j T=>iB U.out hk T
  have HLv:Hid (k8 D n R K Z (i:Int) (k:Int)=0→nS D n R K Z (i:Int) (k:Int)=kD (D i) (D k) R K Z):=fun h=>by unfold nS;rw [if_pos h];simp
  have HMw:Hid (∀ w',Bl w w'→b8 w' bi oi (D i).n (D i).mem):=fun w' h=>by
   obtain ⟨-,h0 | ⟨b0',o0',hh,hDs'⟩⟩:=HM.out.later h
   ·omega
   obtain ⟨-,-,-,-,h0 | ⟨bi',oi',hAi',hMi'⟩⟩:=hDs'.2 i hi
   ·omega
   rw [hAi] at hAi';cases hAi';exact hMi'
  rw [hAi] at e1;rw [hAk] at e2;obtain ⟨f0,f1,f2,f3,f4⟩:=V.out w3 hW3;obtain ⟨m1,hm1e⟩:∃ m,(D i).n=m:=⟨_,rfl⟩;obtain ⟨m2,hm2e⟩:∃ m,(D k).n=m:=⟨_,rfl⟩;rw [hm1e] at e1 hm1 hm1a HNi hci X HL0 HMw;rw [hm2e] at e2 hm2 hm2a HMk HNk hckk X HL0;have HoR:Hid (∀ w',Bl w3 w'→Rt 26 #[.slice Ar R.length cr,.int .i64 m1] w' (.bool (R.any (aH m1)))):=fun w' h=>ge Ar cr R m1 w' hR (HPr.out.later (ae s h))
  have Lu:=aa s;have hiI:(i:Int)<(n:Int):=by omega
  have hkI:(k:Int)<(n:Int):=by omega
  generalize C i=C1 at e1 hci;generalize C k=C2 at e2 hckk;have hw3:w.heap.size<w3.heap.size:=by omega
  clear hob ho1 ho2 hDs hMi hMk hd hAi hAk hm1e hm2e s;go_wp2_with fail
  go_quiet (fail)
  go_wp2_with fail;refine (HoR.out _ (ac (zS) _)).mono ?_;rintro e w4 ⟨b,hb4⟩;have c:Bl w3 w4:=ae (ac (zS) _) hb4;have HB34:=aa c;obtain ⟨j0,j1,j2,j3,j4⟩:=V.out w4 (ae Lt.out c);cases hRa:R.any (aH m1) with
  | true =>
   rw [hRa] at b;subst b;have o:Hid (k8 D n R K Z (i:Int) (k:Int)=1∧nS D n R K Z (i:Int) (k:Int)=[]):=by
    have l:=X.out (Or.inl hRa);exact ⟨l,jl (by rw [l];omega)⟩
   clear hRa hb4 c;go_wp2_with fail;go_returns;rw [o.out.1,o.out.2];exact ⟨⟨none,0,rfl,k9.none0 _⟩,ae Lu.out HB34.out⟩
  | false =>
  rw [hRa] at b;subst b;have hoK:=ge Ac cc K m2 w4 hK (HPk.out.later (ae Lu.out c));have HRa:=aa hRa;clear hRa hb4 HoR f0 f1 f2 f3;have hj4:w.heap.size<w4.heap.size:=by omega
  go_wp2_with fail;refine hoK.mono ?_;rintro e w5 ⟨b,hb5⟩;have d:Bl w3 w5:=ae c hb5;have H:=aa d;obtain ⟨l0,l1,l2,l3,l4⟩:=V.out w5 (ae Lt.out d);cases hKa:K.any (aH m2) with
  | true =>
   rw [hKa] at b;subst b;have o:Hid (k8 D n R K Z (i:Int) (k:Int)=1∧nS D n R K Z (i:Int) (k:Int)=[]):=by
    have l:=X.out (Or.inr hKa);exact ⟨l,jl (by rw [l];omega)⟩
   clear hKa hb5 c d hoK;go_wp2_with fail;go_returns;rw [o.out.1,o.out.2];exact ⟨⟨none,0,rfl,k9.none0 _⟩,ae Lu.out H.out⟩
  | false =>
  rw [hKa] at b;subst b;have HE0:=aa (HL0.out HRa.out hKa);have HLl:=aa (HLv.out HE0.out);have HinR:=aa (m7 HRa.out);have HinK:=aa (m7 hKa);have B:=vN bk ok m2 C2 (D k).mem Ac cc K w5 hm2 hK (m7 hKa) (HMk.out.later d) (HPk.out.later (ae Lu.out d));have hj5:w.heap.size<w5.heap.size:=by omega
  clear hKa hb5 c d hoK j0 j1 j2 j3 j4 HB34;go_wp2_with fail;refine B.mono ?_;rintro e w6 ⟨⟨v6,rfl,hO6⟩,hb6⟩;have HB36:=aa (ae H.out hb6);have hln:=qh ⟨#[45]⟩ v6 w5.heap.size K.length (tj (D k).mem K) w6 (by decide) (by simp [tj]) hK (fun x hx=>by
   obtain ⟨z,hz,rfl⟩:=List.mem_map.1 hx;obtain ⟨j,rfl,T⟩:=HinK.out z hz;exact HNk.out j T) hO6
  clear hO6 hb6 B H l0 l1 l2 l3;go_wp2_with fail;refine hln.mono ?_;rintro e w7 ⟨rfl,hb7⟩;have HW7:=aa (ae Lt.out (ae HB36.out hb7));obtain ⟨x,hx⟩:=ax (lnB ⟨#[45]⟩ (tj (D k).mem K));obtain ⟨G,p⟩:=ax ((kD (D i) (D k) R K Z).map Value.string);have HGl:Hid (G.length=R.length+1):=by show _=_;rw [←p,List.length_map,lns_len]
  have HTk:Hid (∀ q,q<R.length→G.take (q+1+1)=G.take (q+1) ++ [.string (lnB ((D i).mem (R.getD q 0).toNat).name ((Z.getD q []).map mQ))]):=fun q hq=>by rw [←p];exact tK _ _ _ _ _ hq
  have HT1:Hid (G.take 1=[.string x]):=by show _=_;rw [←p,←hx];rfl
  have HGe:=aa p;obtain ⟨y7,hy7⟩:=ax (w7.alloc (.cells #[.string x] 9));have hBy7:Bl w7 y7:=by rw [←hy7];go_grown
  have HWy7:=aa (ae HW7.out hBy7);have HO7:Hid (y7.ownsRow W.heap.size 9 1 (.slice (some ⟨w7.heap.size,0,none⟩) 1 1) (0+1) (G.take (0+1))):=by
   show World.ownsRow ..
   rw [←hy7];have h:=World.ownsRow_lit (base:=W.heap.size) (e:=9) (size:=1) w7 #[.string x] 1 HW7.out.size (by unfold maxLen;omega) (by simp)
   rw [HT1.out];exact h
  obtain ⟨l0,l1,l2,l3,l4⟩:=V.out y7 HWy7.out;rw [hx];obtain ⟨hzl,hzr,hzg⟩:=ir HG.out;have HZr:=aa hzr;have HZg:=aa hzg;have hzl2:f.length=R.length:=by rw [←eb,Lv.out];exact hzl
  have HZl:=aa hzl2;obtain ⟨N,hN⟩:=ax R.length;have HN:=aa hN;have HEnd:Hid (∀ (wq:World) (v:Value),wq.ownsRow W.heap.size 9 1 v (N+1) (G.take (N+1))→∃ A' c',v=.slice A' (nS D n R K Z (i:Int) (k:Int)).length c'∧k9 wq A' c' (nS D n R K Z (i:Int) (k:Int))):=fun wq v h=>by
   have hl:=lns_len (R:=R) (K:=K) (Z:=Z) (D i) (D k);rw [List.take_of_length_le (by rw [HGl.out,hN];exact zT),←HGe.out] at h
   obtain ⟨A',c',l,h2⟩:=Eh h (by rw [hl,hN]) (by omega)
   rw [HLl.out];exact ⟨A',c',by rw [l,hl,hN],h2⟩
  rw [hN] at l1 hR ⊢;have hNI:(N:Int)≤1048576:=by omega
  have hm1I:(m1:Int)≤12:=by omega
  clear hb7 hln hx p hBy7 hzl hzr hzg hzl2 hN;go_wp2_with fail;clear hy7
  go_loopg [16,77] N (fun gg s16 s77 wr => ∃ (q:Nat) (v:Value),q≤N∧gg=N-q∧s77=.int .i64 q∧v=s16∧Hid (wr.ownsRow W.heap.size 9 1 v (q+1) (G.take (q+1)))∧Hid (Bl W wr))
  case atStart=>exact ⟨0,_,zU,rfl,rfl,rfl,HO7,HWy7⟩
  case round =>
   obtain ⟨q,v,hq,rfl,rfl,rfl,HO,HB⟩:=hrel
   by_cases hlt:q<N
   ·have E:q<R.length:=by rw [HN.out];exact hlt
    have hqI:(q:Int)<(N:Int):=by omega
    have hBw:=ae g.out HB.out;obtain ⟨r0,r1,r2,r3,r4⟩:=V.out wr HB.out;obtain ⟨hcr,h0 | ⟨br,or,rfl,hbr,hcl⟩⟩:=HPr.out.later hBw
    ·rw [h0] at E;simp at E
    have cq:=hcl q E;obtain ⟨j,T,hjm⟩:=HinR.out _ (gK E);have HT:=aa (HTk.out q E);rw [T] at cq HT;simp only [Int.toNat_natCast] at HT;have hqz:q<f.length:=by rw [HZl.out];exact E
    obtain ⟨hcg,-,h0 | ⟨bg,og,rfl,hbg,hcz⟩⟩:=HZ.out.later hBw
    ·rw [h0] at hqz;simp at hqz
    obtain ⟨ez,hvz⟩:=hcz q hqz;have Q:Z.getD q []∈Z:=by rw [←Lv.out];exact kS (by rw [eb];exact hqz)
    have r:=HZr.out _ Q;have F:=HZg.out _ Q;have ezq:Z.getD q []=(f.getD q noCs).L:=by rw [←Lv.out];exact kA f q
    rw [ezq] at r F HT;generalize f.getD q noCs=xz at ez hvz r F HT;obtain ⟨xl,xA,xc⟩:=xz;simp only at ez hvz r F HT;rw [r] at ez;have htx:=vQ xA xc xl wr (by omega) F (HTb.out.later hBw) hvz
    rw [r] at htx;have htl:(xl.map mQ).length=K.length:=by rw [List.length_map];exact r
    have hts:∀ z∈xl.map mQ,z.size≤30:=fun z hz=>by
     obtain ⟨u,hu,rfl⟩:=List.mem_map.1 hz;exact pn (F u hu)
    have Y:Hid (∀ (vv:Value) (base:Nat) (w':World),w'.ownsRow base 9 1 vv K.length ((xl.map mQ).map Value.string)→Rt 44 #[.string ((D i).mem j).name,vv] w' (.string (lnB ((D i).mem j).name (xl.map mQ)))):=fun vv base w' h=>qh _ vv base K.length _ w' (HNi.out j hjm) htl hK hts h
    generalize (xl.map mQ).map Value.string=tv at htx Y;generalize lnB ((D i).mem j).name (xl.map mQ)=lx at Y HT;obtain ⟨nm,B⟩:=ax (((D i).mem j).name);have HNm:Hid (∀ w',Bl w w'→w'.cell? ⟨bi,oi+j*4,none⟩=some (.string nm)∧bi<w'.heap.size):=fun w' h=>by
     have l:=HMw.out w' h;exact ⟨by rw [←B];exact (l.2 j hjm).1,l.1⟩
    rw [B] at Y;have hjI:(j:Int)<(m1:Int):=by omega
    have hqg:(q:Int)<(f.length:Int):=by omega
    rw [HN.out] at r1;clear hcl hcz Q F T hts htl ezq B r hvz;go_wp2_with fail;refine htx.mono ?_;rintro e w8 ⟨⟨v8,rfl,hO8⟩,hb8⟩;have HB8:=aa (ae HB.out hb8);have HO8:=aa (ar HO.out hb8);obtain ⟨n0,hbi⟩:=HNm.out w8 (ae g.out HB8.out);have hl8:=Y.out v8 _ w8 hO8;clear hb8 htx hO8 r0 r1 r2 r3;go_wp2_with fail;refine hl8.mono ?_;rintro e w9 ⟨rfl,hb9⟩;have HB9:=aa (ae HB8.out hb9);have hO9:=ar HO8.out hb9;have hsz:=HB9.out.size;clear hb9 hl8
    go_wp2_with (at_builtin;refine wpList_append_own _ rfl _ _ 51 rfl W.heap.size 9 i0 (.string ⟨#[]⟩) 1 16 Tryz.underlying51 hi0 hz0 hz1 hz2 rfl (by decide) _ _ _ rfl (hO9.alloc _) ⟨w9.heap.size,0,none⟩ 1 1 [.string lx] rfl rfl bu (by intro u hu;simp at hu;subst hu;rfl) (by unfold maxLen;omega) (by omega) (by simp;omega) ?_)
    intro v' wa S P _;have HBa:Hid (Bl W wa):=bA HB9.out hO9 P;have HOa:Hid (wa.ownsRow W.heap.size 9 1 v' (q+1+1) (G.take (q+1+1))):=by
     show World.ownsRow ..
     rw [HT.out];exact S
    clear S P hO9;go_wp2_with fail
    go_roundg (N-(q+1))
    case measure=>omega
    case rel=>exact ⟨q+1,_,by omega,rfl,by go_num,rfl,HOa,HBa⟩
   have hqe:q=N:=by omega
   subst hqe;have o:=aa (HEnd.out wr v HO.out);go_wp2_with fail;obtain ⟨A',c',rfl,hP⟩:=o.out;go_returns;rw [HE0.out];exact ⟨⟨A',c',rfl,hP⟩,ae g.out HB.out⟩
end Go.Proofs.YthlhjjabkgpenaaGreatDoor
