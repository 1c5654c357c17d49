/- tallylaw3.GridTells: h -/
import Derived.Lib.AppendZerosOnto
import Derived.Test.YthlhjjabkgpenaaGreatDoorJTBT
namespace Go.Proofs.YthlhjjabkgpenaaGreatDoor
open Go ChangeShapes WideShapes ChangeAt RowKit
set_option maxRecDepth 99999
set_option maxHeartbeats 0
set_option maxHeartbeats 64000000
theorem KM (T:Array Value) (s:Nat→Value) (A0 Ar Ac Ag:Option Addr) (n cap nr cr nc cc nz cg:Nat) (w:World) (c:aP T s) (a:s 0=.agg #[.slice A0 n cap]) (b:s 5=.agg #[.slice Ar nr cr,.slice Ac nc cc,.slice Ag nz cg])  (J:Act→World→Prop) (Q:Exit→Act→World→Prop)
  (d:∀ T',aP T' (cJ (cJ (cJ s 6 (.pointer (some ⟨w.heap.size,0,none⟩))) 11 (.pointer (some ⟨w.heap.size+1,0,none⟩))) 12 (.bool false))→J ⟨T',[]⟩ (G8 w (.slice A0 n cap) (.slice Ar nr cr) (.slice Ac nc cc) (.slice Ag nz cg))):Code.wp Tryz.prog (bC 0 []) (Exit.then J Q) ⟨T,[]⟩ w:=by
 obtain ⟨h,rfl⟩:=am c;unfold a7;rw [a,b];have g:=aa d;have e:=aa a;have f:=aa b;clear d c a b
 conv=>arg 2;whnf
 go_wp2_with fail;refine g.out _ ⟨rfl,?_⟩ ;rw [←e.out,←f.out]
 rfl
set_option maxHeartbeats 16000000
theorem AX {D:Nat→Dm} {n:Nat} {R K:List Int} {Z:List (List (Int×Int))} {row col:Int} (h:k8 D n R K Z row col=0):(ah D n).2.2=0∧bI R.length K.length Z=0∧aH n row=false∧aH n col=false∧R.any (aH (D row.toNat).n)=false∧K.any (aH (D col.toNat).n)=false:=by
 unfold k8 at h
 by_cases b:(ah D n).2.2=0
 ·rw [if_neg (by simpa using b)] at h
  by_cases c:bI R.length K.length Z=0
  ·rw [if_neg (by simpa using c)] at h
   by_cases a:aH n row=true∨aH n col=true
   ·rw [if_pos a] at h;cases h
   rw [if_neg a] at h
   by_cases d:R.any (aH (D row.toNat).n)=true∨K.any (aH (D col.toNat).n)=true
   ·rw [if_pos d] at h;cases h
   simp only [not_or,Bool.not_eq_true] at a d;exact ⟨b,c,a.1,a.2,d.1,d.2⟩
  rw [if_pos c] at h;exact absurd h c
 rw [if_pos b] at h;exact absurd h b
theorem qx {D:Nat→Dm} {n:Nat} {A:Nat→Option Addr} {C:Nat→Nat} {cap d od:Nat} {w:World} (h:bd w (some ⟨d,od,none⟩) cap n D A C) {a y:Nat} (i:a<n) (k:y<(D a).n):∃ bm om,w.cell? ⟨d,od+a*3+2,none⟩=some (.slice (some ⟨bm,om,none⟩) (D a).n (C a))∧w.cell? ⟨bm,om+y*4,none⟩=some (.string ((D a).mem y).name):=by
 obtain ⟨-,l | ⟨b,o,e,g⟩⟩:=h
 ·omega
 cases e;obtain ⟨-,-,c,-,m | ⟨bm,om,f,j⟩⟩:=g.2 a i
 ·omega
 rw [f] at c;exact ⟨bm,om,c,(j.2 y k).1⟩
section
variable {Ar:Option Addr} {cr:Nat} {R:List Int} {Ac:Option Addr} {cc:Nat} {K:List Int} {Ag':Option Addr} {cg:Nat} {zz:List CsL} {g:Nat} {w0:World} {D:Nat→Dm} {n:Nat} {A:Nat→Option Addr} {C:Nat→Nat} {cap d od b:Nat}
theorem Hv (H:Ctx13 Ar cr R Ac cc K Ag' cg zz g w0) (hM:bd w0 (some ⟨d,od,none⟩) cap n D A C) (hc:∀ w',Bl w0 w'→w'.cell? ⟨b,0,none⟩=some (.slice (some ⟨d,od,none⟩) n cap)) (f:Nat) (r:f<n) (E:∀ x∈K,∃ j:Nat,x=j∧j<(D f).n) (F:∀ j,j<(D f).n→((D f).mem j).name.size≤30)
  (T:Array Value) (s:Nat→Value) (w:World) (o:aP T s) (X:s 4=.int .i64 (f:Nat)) (Z:s 6=.pointer (some ⟨b,0,none⟩)) (u:s 11=.pointer (some ⟨g,0,none⟩)) (a:s 37=.string ⟨#[45]⟩) (U:Bl w0 w) (J:Act→World→Prop) (Q:Exit→Act→World→Prop)
  (hJ:∀ T' s' w',aP T' s'→Ag [37,38] s s'→s' 37=.string (lnB ⟨#[45]⟩ (tj (D f).mem K))→Bl w w'→J ⟨T',[]⟩ w'):Code.wp Tryz.prog (bC 23 [1,2,1,0]) (Exit.then J Q) ⟨T,[]⟩ w:=by
 rw [show bC 23 [1,2,1,0]=.seq (bC 23 [1,2,1,0,0]) (.block 14 (.loop (.seq (.seq (bC 23 [1,2,1,0,1,3,4,0,0]) (.cond (.tmp 324) .skip (.exit 14))) (.seq (.block 15 (bC 23 [1,2,1,0,1,3,4,1,0,3])) (bC 23 [1,2,1,0,1,3,4,1,1]))))) from rfl]
 have hKl:=H.hK;have B:(tj (D f).mem K).length=K.length:=by simp [tj]
 have P:∀ x∈tj (D f).mem K,x.size≤30:=fun x S=>by
  obtain ⟨k,r,rfl⟩:=List.mem_map.1 S;obtain ⟨j,rfl,hj⟩:=E k r;exact F _ (by simpa using hj)
 refine wp_seq (JI T s w o _ _ fun T2 I=>?_)
 refine gz K.length (fun k=>decide (k<K.length)) (by simp)
  (fun k s' w'=>Ag [37,38] s s'∧s' 37=.string (lnB ⟨#[45]⟩ ((tj (D f).mem K).take k))∧s' 38=.int .i64 (k:Nat)∧Bl w w')
  (fun k s' w'=>Ag [37,38] s s'∧s' 37=.string (lnB ⟨#[45]⟩ ((tj (D f).mem K).take (k+1)))∧s' 38=.int .i64 (k:Nat)∧Bl w w')
  ?_ ?_ ?_ I ⟨(Ag.refl _ _).up (by decide),by rw [List.take_zero,yN];exact a,aT _ _ _,zS⟩ ?_
 ·rintro k T s' w' r o ⟨l,a,h,c⟩ K' Q i
  exact JJ T s' g k K.length cc Ac w' o ((l 11 (by decide)).trans u) h (H.c1 (ae U c)) _ _ i
 ·rintro k T s' w' e-o ⟨l,a,h,c⟩ K' Q i
  have m:=ae U c;obtain ⟨-,G | ⟨br,ob,W,-,q⟩⟩:=H.hPk.later m
  ·rw [G] at e;simp at e
  obtain ⟨y,V,t⟩:=E (K.getD k 0) (by rw [zZ,zX e];exact List.getElem_mem e)
  obtain ⟨bm,om,q1,q2⟩:=qx (hM.later m) r t;have z:=q k e;rw [V] at z;have v:=H.c1 m;rw [W] at v;have hl:=tI 30 ⟨#[45]⟩ ((tj (D f).mem K).take k) (fun x S=>P x (List.mem_of_mem_take S))
  have hl2:((tj (D f).mem K).take k).length≤1048576:=by simp [B];omega
  have Y:(⟨#[45]⟩:ByteArray).size=1:=rfl;refine JL T s' g b d od n cap f (D f).n (C f) bm om br ob K.length cc k y _ _ w' o ((l 4 (by decide)).trans X) ((l 6 (by decide)).trans Z) ((l 11 (by decide)).trans u) a h (hc w' m) q1 r v z e t q2 (by omega) (F y t) _ _ fun T' w2 p M=>i T' _ w2 p ⟨l.up (by decide),?_,h,ae c M⟩
  rw [aT,←tJ];unfold tj;rw [jm _ K 0 e,V]
  simp
 ·rintro k T s' w' r o ⟨l,a,h,c⟩ K' Q i
  exact JK T s' k w' o h (by omega) _ _ fun T' p=>i T' _ w' p ⟨l.up (by decide),a,aT _ _ _,c⟩
 rintro k T3 s3 w3 r O L ⟨l,a,-,c⟩;have N:k=K.length:=by simp at O;omega
 subst N;exact hJ T3 s3 w3 L l (by rw [a,←B,List.take_length]) c
theorem Hx (H:Ctx13 Ar cr R Ac cc K Ag' cg zz g w0) (i:Nat) (G:i<zz.length) (M:(zz.getD i noCs).L.length=K.length) (q:jL (zz.getD i noCs).L) (nm:ByteArray) (W:nm.size≤30)
  (T:Array Value) (s:Nat→Value) (w:World) (l:aP T s) (o:s 11=.pointer (some ⟨g,0,none⟩)) (a:s 37=.string nm) (t:s 39=.int .i64 (i:Nat)) (F:Bl w0 w) (J:Act→World→Prop) (Q:Exit→Act→World→Prop)
  (N:∀ T' s' w',aP T' s'→Ag [37,40,41] s s'→s' 37=.string (lnB nm ((zz.getD i noCs).L.map mQ))→Bl w w'→J ⟨T',[]⟩ w'):Code.wp Tryz.prog (bC 23 [1,2,1,1,1,1,3,4,1,0,3,1,0]) (Exit.then J Q) ⟨T,[]⟩ w:=by
 rw [show bC 23 [1,2,1,1,1,1,3,4,1,0,3,1,0]=.seq (bC 23 [1,2,1,1,1,1,3,4,1,0,3,1,0,0]) (.block 18 (.loop (.seq (.seq (bC 23 [1,2,1,1,1,1,3,4,1,0,3,1,0,1,3,4,0,0]) (.cond (.tmp 373) .skip (.exit 18))) (.seq (.block 19 (.seq (bC 23 [1,2,1,1,1,1,3,4,1,0,3,1,0,1,3,4,1,0,3,0]) (bC 23 [1,2,1,1,1,1,3,4,1,0,3,1,0,1,3,4,1,0,3,1]))) (bC 23 [1,2,1,1,1,1,3,4,1,0,3,1,0,1,3,4,1,1]))))) from rfl]
 have O:=H.hK;have r:((zz.getD i noCs).L.map mQ).length=K.length:=by rw [List.length_map,M]
 have E:∀ x∈(zz.getD i noCs).L.map mQ,x.size≤30:=fun x n=>by
  obtain ⟨c,S,rfl⟩:=List.mem_map.1 n;exact pn (q c S)
 refine wp_seq (JR T s w l _ _ fun T2 y=>?_)
 refine gz K.length (fun k=>decide (k<K.length)) (by simp)
  (fun k s' w'=>Ag [37,40,41] s s'∧s' 37=.string (lnB nm (((zz.getD i noCs).L.map mQ).take k))∧s' 40=.int .i64 (k:Nat)∧Bl w w')
  (fun k s' w'=>Ag [37,40,41] s s'∧s' 37=.string (lnB nm (((zz.getD i noCs).L.map mQ).take (k+1)))∧s' 40=.int .i64 (k:Nat)∧Bl w w')
  ?_ ?_ ?_ y ⟨(Ag.refl _ _).up (by decide),by rw [List.take_zero,yN];exact a,aT _ _ _,zS⟩ ?_
 ·rintro k T s' w' I l ⟨h,a,d,b⟩ K' Q f
  exact JS T s' g k K.length cc Ac w' l ((h 11 (by decide)).trans o) d (H.c1 (ae F b)) _ _ f
 ·rintro k T s' w' D-l ⟨h,a,d,b⟩ K' Q f
  have p:=ae F b;have j:k<(zz.getD i noCs).L.length:=by rw [M];exact D
  obtain ⟨bz,oz,bl,ol,e,c1,c2,c3⟩:=zp (H.hZ.later p) G j;have n:good ((zz.getD i noCs).L.getD k noC).1 ((zz.getD i noCs).L.getD k noC).2=true:=q _ (ku j);refine wp_seq (JU T s' g bz oz zz.length cg bl ol _ _ i k _ _ (fun v w1=>v=.string (mQ ((zz.getD i noCs).L.getD k noC))∧Bl w' w1) w' l ((h 11 (by decide)).trans o) ((h 39 (by decide)).trans t) d (by rw [←e];exact H.c2 p) c1 c2 c3 G j ?_ _ _ fun T1 v w1 u P=>?_)
  ·refine (Fd _ _ n w').mono ?_
   rintro e w1 ⟨rfl,A⟩;exact ⟨_,rfl,rfl,A⟩
  obtain ⟨rfl,A⟩:=P;have V:=tI 30 nm (((zz.getD i noCs).L.map mQ).take k) (fun x n=>E x (List.mem_of_mem_take n))
  have U:(((zz.getD i noCs).L.map mQ).take k).length≤1048576:=by rw [List.length_take,r];omega
  refine JV T1 _ _ _ w1 u a (aT _ _ _) (by omega) (pn n) _ _ fun T' m=>f T' _ w1 m ⟨(h.up (by decide)).up (by decide),?_,d,ae b A⟩
  rw [aT,←tJ,jm _ _ noC j]
 ·rintro k T s' w' I l ⟨h,a,d,b⟩ K' Q f
  exact JT T s' k w' l d (by omega) _ _ fun T' m=>f T' _ w' m ⟨h.up (by decide),a,aT _ _ _,b⟩
 rintro k T3 s3 w3 I C z ⟨h,a,-,b⟩;have B:k=K.length:=by simp at C;omega
 subst B;exact N T3 s3 w3 z h (by rw [a,←r,List.take_length]) b
theorem Hw (H:Ctx13 Ar cr R Ac cc K Ag' cg zz g w0) (hM:bd w0 (some ⟨d,od,none⟩) cap n D A C) (hc:∀ w',Bl w0 w'→w'.cell? ⟨b,0,none⟩=some (.slice (some ⟨d,od,none⟩) n cap)) (i O:Nat) (N:i<n) (Lx:∀ x∈R,∃ j:Nat,x=j∧j<(D i).n) (LB:∀ j,j<(D i).n→((D i).mem j).name.size≤30) (hG:bI R.length K.length (lZ zz)=0)
  (T:Array Value) (s:Nat→Value) (w1 w2:World) (t:aP T s) (h3:s 3=.int .i64 (i:Nat)) (h6:s 6=.pointer (some ⟨b,0,none⟩)) (q:s 11=.pointer (some ⟨g,0,none⟩)) (hB:Bl w0 w1) (V:Bl w1 w2) (o:w2.ownsRow w1.heap.size 9 1 (s 36) 1 (((kD (D i) (D O) R K (lZ zz)).map Value.string).take 1)) (J:Act→World→Prop) (Q:Exit→Act→World→Prop)
  (hJ:∀ T' s' w',aP T' s'→Ag [36,37,39,40,41] s s'→w'.ownsRow w1.heap.size 9 1 (s' 36) (R.length+1) ((kD (D i) (D O) R K (lZ zz)).map Value.string)→Bl w1 w'→J ⟨T',[]⟩ w'):Code.wp Tryz.prog (bC 23 [1,2,1,1,1]) (Exit.then J Q) ⟨T,[]⟩ w2:=by
 rw [show bC 23 [1,2,1,1,1]=.seq (bC 23 [1,2,1,1,1,0]) (.block 16 (.loop (.seq (.seq (bC 23 [1,2,1,1,1,1,3,4,0,0]) (.cond (.tmp 352) .skip (.exit 16))) (.seq (.block 17 (.seq (bC 23 [1,2,1,1,1,1,3,4,1,0,3,0]) (.seq (bC 23 [1,2,1,1,1,1,3,4,1,0,3,1,0]) (bC 23 [1,2,1,1,1,1,3,4,1,0,3,1,1])))) (bC 23 [1,2,1,1,1,1,3,4,1,1]))))) from rfl]
 have hRl:=H.hR;obtain ⟨LC,Lv,Lw⟩:=ir hG;rw [eb] at LC;have p:∀ i,i<zz.length→(zz.getD i noCs).L∈lZ zz:=fun i N=>by
  rw [←kA];exact kS (by rw [eb];exact N)
 refine wp_seq (JN T s w2 t _ _ fun T2 Y=>?_)
 refine gz R.length (fun k=>decide (k<R.length)) (by simp)
  (fun k s' w'=>Ag [36,37,39,40,41] s s'∧s' 39=.int .i64 (k:Nat)∧w'.ownsRow w1.heap.size 9 1 (s' 36) (k+1) (((kD (D i) (D O) R K (lZ zz)).map Value.string).take (k+1))∧Bl w1 w')
  (fun k s' w'=>Ag [36,37,39,40,41] s s'∧s' 39=.int .i64 (k:Nat)∧w'.ownsRow w1.heap.size 9 1 (s' 36) (k+1+1) (((kD (D i) (D O) R K (lZ zz)).map Value.string).take (k+1+1))∧Bl w1 w')
  ?_ ?_ ?_ Y ⟨(Ag.refl _ _).up (by decide),aT _ _ _,o,V⟩ ?_
 ·rintro k T s' w' hk t ⟨f,c,o,a⟩ K' Q m
  exact JO T s' g k R.length cr Ar w' t ((f 11 (by decide)).trans q) c (H.c0 (ae hB a)) _ _ m
 ·rintro k T s' w' e-t ⟨f,c,o,a⟩ K' Q m
  have h:=ae hB a;obtain ⟨-,P | ⟨br,ob,e1,-,z⟩⟩:=H.hPr.later h
  ·rw [P] at e;simp at e
  obtain ⟨y,hy,E⟩:=Lx (R.getD k 0) (by rw [zZ,zX e];exact List.getElem_mem e)
  obtain ⟨bm,om,q1,q2⟩:=qx (hM.later h) N E;have M:=z k e;rw [hy] at M;have I:=H.c0 h;rw [e1] at I;have B:k<zz.length:=by omega
  refine wp_seq (JQ T s' g b d od n cap i (D i).n (C i) bm om br ob R.length cr k y _ w' t ((f 3 (by decide)).trans h3) ((f 6 (by decide)).trans h6) ((f 11 (by decide)).trans q) c (hc w' h) q1 N I M e E q2 _ _ fun T1 w3 X w=>?_)
  refine wp_seq (Hx H k B (Lv _ (p k B)) (Lw _ (p k B)) _ (LB y E) T1 _ w3 X ((f 11 (by decide)).trans q) (aT _ _ _) c (ae h w) _ _ fun T3 s3 w4 u r U G=>?_)
  have l:=ae a (ae w G);have v:=ar o (ae w G);have S:s3 36=s' 36:=r 36 (by decide)
  have F:Ag [36,37,39,40,41] s s3:=(f.up (by decide)).trans (r.wide (by decide))
  rw [←S] at v;refine JW T3 s3 w1.heap.size (k+1) (s3 36) _ _ w4 u rfl U v l.size (by omega) _ _ fun T4 v' w5 Z Lu Lt=>m T4 _ w5 Z ⟨F.up (by decide),(r 39 (by decide)).trans c,?_,eG l Lt l.size fun g hg=>(v.lt g hg).1⟩
  rw [aT,tK _ _ _ _ _ e,hy,kA]
  simpa using Lu
 ·rintro k T s' w' hk t ⟨f,c,o,a⟩ K' Q m
  exact JP T s' k w' t c (by omega) _ _ fun T' W=>m T' _ w' W ⟨f.up (by decide),aT _ _ _,o,a⟩
 rintro k T3 s3 w3 hk LA u ⟨f,-,o,a⟩;have Lz:k=R.length:=by simp at LA;omega
 subst Lz;refine hJ T3 s3 w3 u f ?_ a;rw [List.take_of_length_le (by rw [List.length_map,lns_len];exact zT)] at o
 exact o
end
theorem J2 {Ar:Option Addr} {cr:Nat} {R:List Int} {Ac:Option Addr} {cc:Nat} {K:List Int} {Ag':Option Addr} {cg:Nat} {zz:List CsL} {g:Nat} {w0:World} (H:Ctx13 Ar cr R Ac cc K Ag' cg zz g w0) (A0:Option Addr) (cap n:Nat) (D:Nat→Dm) (A:Nat→Option Addr) (C:Nat→Nat) (b:Nat) (row col:Int) (M:bd w0 A0 cap n D A C) (hc:∀ w',Bl w0 w'→w'.cell? ⟨b,0,none⟩=some (.slice A0 n cap))
  (T:Array Value) (s:Nat→Value) (w:World) (hF:aP T s) (h3:s 3=.int .i64 row) (h4:s 4=.int .i64 col) (h6:s 6=.pointer (some ⟨b,0,none⟩)) (c:s 11=.pointer (some ⟨g,0,none⟩)) (x:s 13=.int .i64 (k8 D n R K (lZ zz) row col)) (f:s 36=.slice none 0 0) (hB:Bl w0 w) (J:Act→World→Prop) (Q:Exit→Act→World→Prop)
  (hJ:∀ T' s' w' A' t,aP T' s'→Ag [36,37,38,39,40,41] s s'→s' 36=.slice A' (nS D n R K (lZ zz) row col).length t→k9 w' A' t (nS D n R K (lZ zz) row col)→Bl w w'→J ⟨T',[]⟩ w'):Code.wp Tryz.prog (lp 23) (Exit.then J Q) ⟨T,[]⟩ w:=by
 rw [show lp 23=.seq (bC 23 [0]) (.cond (.tmp 319) (.seq (bC 23 [1,2,0]) (.seq (bC 23 [1,2,1,0]) (.seq (bC 23 [1,2,1,1,0]) (bC 23 [1,2,1,1,1])))) .skip) from rfl]
 refine wp_seq (JG T s _ w hF x _ _ fun T1 l u=>?_)
 by_cases r:k8 D n R K (lZ zz) row col=0
 ·rw [decide_eq_true r] at u
  refine wp_cond_true u ?_;obtain ⟨o,hG,X,Y,hr,hk⟩:=AX r;obtain ⟨i,Z,hi⟩:=eL X;obtain ⟨v,V,q⟩:=eL Y;subst Z V;rw [Int.toNat_natCast] at hr hk;have N:=M;obtain ⟨hcap,h0 | ⟨d,od,rfl,hD⟩⟩:=N
  ·omega
  refine wp_seq (JH T1 s w l _ _ fun T2 E=>?_)
  refine wp_seq (Hv H M hc v q (m7 hk) (fun j W=>iB o q W) T2 _ w E h4 h6 c (aT _ _ _) hB _ _ fun T3 s3 w1 F h y p=>?_)
  have B:=ae hB p;have k:Ag [36,37,38,39,40,41] s s3:=((Ag.refl _ s).up (by decide)).trans (h.wide (by decide))
  refine wp_seq (JM T3 s3 w1.heap.size 0 (.slice none 0 0) _ [] w1 F ((h 36 (by decide)).trans f) y ⟨rfl,Or.inl ⟨rfl,rfl⟩⟩ (zT) (by omega) _ _ fun T4 v' w2 G O L=>?_)
  have S:Bl w1 w2:=eG (zS) L (zT) fun g hg=>by cases hg
  have a:Ag [36,37,38,39,40,41] s (cJ s3 36 v'):=k.up (by decide)
  refine Hw H M hc i v hi (m7 hr) (fun j W=>iB o hi W) hG T4 _ w1 w2 G ((a 3 (by decide)).trans h3) ((a 6 (by decide)).trans h6) ((a 11 (by decide)).trans c) B S (by rw [aT];exact O) _ _ fun T5 s5 w5 I z P U=>?_
  have m:nS D n R K (lZ zz) (i:Int) (v:Int)=kD (D i) (D v) R K (lZ zz):=by
   unfold nS;rw [if_pos r,Int.toNat_natCast,Int.toNat_natCast]
  have hRl:=H.hR;obtain ⟨A',t,e,hV⟩:=Eh P (by rw [lns_len]) (by omega)
  refine hJ T5 s5 w5 A' t I (a.trans (z.wide (by decide))) ?_ ?_ (ae p U)
  ·rw [m,lns_len,e]
  rw [m];exact hV
 rw [decide_eq_false r] at u;refine wp_cond_false u (wp_skip ?_);have m:nS D n R K (lZ zz) row col=[]:=jl r;refine hJ T1 s w none 0 l (Ag.refl _ _) (by rw [m];exact f) (by rw [m];exact k9.none0 w) (zS)
set_option maxHeartbeats 64000000
theorem KI (T:Array Value) (s:Nat→Value) (b:Nat) (so vl:Value) (E:Int) (w:World) (h:aP T s) (f:s 1=vl) (g:s 6=.pointer (some ⟨b,0,none⟩)) (m:w.cell? ⟨b,0,none⟩=some so) (a:Rt 4 #[.agg #[so],vl] w (.int .i64 E)) (J:Act→World→Prop) (Q:Exit→Act→World→Prop)
  (i:∀ T' w',aP T' (cJ s 13 (.int .i64 E))→Bl w w'→J ⟨T',[]⟩ w'):Code.wp Tryz.prog (lp 1) (Exit.then J Q) ⟨T,[]⟩ w:=by
 obtain ⟨x,rfl⟩:=am h;unfold a7;rw [f,g];have l:=aa i;have j:=aa f;have k:=aa g;clear i h f g
 conv=>arg 2;whnf
 go_wp2_with fail;refine a.mono ?_;rintro e w1 ⟨rfl,c⟩;have d:=aa c;clear a c;go_wp2_with fail;refine l.out _ _ ⟨rfl,?_⟩ d.out;rw [←j.out,←k.out]
 rfl
theorem KJ (T:Array Value) (s:Nat→Value) (b:Nat) (so vp:Value) (E E2:Int) (w:World) (p:aP T s) (i:s 2=vp) (j:s 6=.pointer (some ⟨b,0,none⟩)) (c:s 13=.int .i64 E) (u:w.cell? ⟨b,0,none⟩=some so) (l:E≠0→E=E2) (k:E=0→Rt 5 #[.agg #[so],vp] w (.int .i64 E2)) (J:Act→World→Prop) (Q:Exit→Act→World→Prop)
  (q:∀ T' w',aP T' (cJ s 13 (.int .i64 E2))→Bl w w'→J ⟨T',[]⟩ w'):Code.wp Tryz.prog (lp 2) (Exit.then J Q) ⟨T,[]⟩ w:=by
 obtain ⟨x,rfl⟩:=am p;unfold a7;rw [i,j,c];have h:=aa q;have n:=aa i;have o:=aa j;have r:=aa c;clear q p i j c
 conv=>arg 2;whnf
 by_cases d:E=0
 ·have a:=k d
  have m:(E == 0)=true:=by simp [d]
  clear k l d;go_wp2_with fail;refine a.mono ?_;rintro e w1 ⟨rfl,f⟩;have g:=aa f;clear a f;go_wp2_with fail;refine h.out _ _ ⟨rfl,?_⟩ g.out;rw [←n.out,←o.out]
  rfl
 have t:=aa (l d);have m:(E == 0)=false:=by simpa using d
 clear k l d;go_wp2_with fail;rw [←t.out] at h;refine h.out _ _ ⟨rfl,?_⟩ (zS);rw [←n.out,←o.out]
 rfl
theorem KK (T:Array Value) (s:Nat→Value) (A:Option Addr) (pl y:Nat) (row col E1 E2:Int) (w:World) (n:aP T s) (j:s 2=.slice A pl y) (k:s 3=.int .i64 row) (l:s 4=.int .i64 col) (c:s 13=.int .i64 E1) (p:(if E1=0∧(aH pl row=true∨aH pl col=true) then 1 else E1)=E2) (J:Act→World→Prop) (Q:Exit→Act→World→Prop)
  (o:∀ T',aP T' (cJ s 13 (.int .i64 E2))→J ⟨T',[]⟩ w):Code.wp Tryz.prog (lp 3) (Exit.then J Q) ⟨T,[]⟩ w:=by
 obtain ⟨x,rfl⟩:=am n;unfold a7;rw [j,k,l,c];have a:=aa o;have d:=aa j;have e:=aa k;have f:=aa l;have v:=aa c;clear o n j k l c
 conv=>arg 2;whnf
 have g:=aa p;clear p
 by_cases h:E1=0
 ·have m:(E1 == 0)=true:=by simp [h]
  have i:=aa h;clear h
  by_cases q:row<0
  ·have b:Hid (1=E2):=by show _=_;rw [←g.out];simp [aH,i.out,q]
   go_wp2_with fail;rw [←b.out] at a;refine a.out _ ⟨rfl,?_⟩;rw [←d.out,←e.out,←f.out]
   rfl
  skip
  by_cases r:(pl:Int)≤row
  ·have b:Hid (1=E2):=by show _=_;rw [←g.out];simp [aH,i.out,r]
   go_wp2_with fail;rw [←b.out] at a;refine a.out _ ⟨rfl,?_⟩;rw [←d.out,←e.out,←f.out]
   rfl
  skip
  by_cases t:col<0
  ·have b:Hid (1=E2):=by show _=_;rw [←g.out];simp [aH,i.out,t]
   go_wp2_with fail;rw [←b.out] at a;refine a.out _ ⟨rfl,?_⟩;rw [←d.out,←e.out,←f.out]
   rfl
  skip
  by_cases u:(pl:Int)≤col
  ·have b:Hid (1=E2):=by show _=_;rw [←g.out];simp [aH,i.out,u]
   go_wp2_with fail;rw [←b.out] at a;refine a.out _ ⟨rfl,?_⟩;rw [←d.out,←e.out,←f.out]
   rfl
  skip
  have b:Hid (E1=E2):=by show _=_;rw [←g.out];simp [aH,q,r,t,u]
  go_wp2_with fail;rw [←b.out] at a;refine a.out _ ⟨rfl,?_⟩;rw [←d.out,←e.out,←f.out]
  rfl
 have b:Hid (E1=E2):=by show _=_;rw [←g.out];simp [h]
 have m:(E1 == 0)=false:=by simpa using h
 clear h;go_wp2_with fail;rw [←b.out] at a;refine a.out _ ⟨rfl,?_⟩;rw [←d.out,←e.out,←f.out]
 rfl
theorem KL (T:Array Value) (s:Nat→Value) (row col E1 E2:Int) (w:World) (n:aP T s) (j:s 3=.int .i64 row) (k:s 4=.int .i64 col) (a:s 13=.int .i64 E1) (d:(if E1=0∧row=col then 3 else E1)=E2) (J:Act→World→Prop) (Q:Exit→Act→World→Prop)
  (o:∀ T',aP T' (cJ s 13 (.int .i64 E2))→J ⟨T',[]⟩ w):Code.wp Tryz.prog (lp 4) (Exit.then J Q) ⟨T,[]⟩ w:=by
 obtain ⟨x,rfl⟩:=am n;unfold a7;rw [j,k,a];have c:=aa o;have g:=aa j;have i:=aa k;have p:=aa a;clear o n j k a
 conv=>arg 2;whnf
 by_cases b:E1=0
 ·have m:(E1 == 0)=true:=by simp [b]
  by_cases e:row=col
  ·have l:(row == col)=true:=by simp [e]
   have f:Hid (3=E2):=by show _=_;rw [←d,if_pos ⟨b,e⟩]
   clear d b e;go_wp2_with fail;rw [←f.out] at c;refine c.out _ ⟨rfl,?_⟩;rw [←g.out,←i.out]
   rfl
  have l:(row == col)=false:=by simp [e]
  have f:Hid (E1=E2):=by show _=_;rw [←d,if_neg (fun h=>e h.2)]
  clear d b e;go_wp2_with fail;rw [←f.out] at c;refine c.out _ ⟨rfl,?_⟩;rw [←g.out,←i.out]
  rfl
 have m:(E1 == 0)=false:=by simpa using b
 have f:Hid (E1=E2):=by show _=_;rw [←d,if_neg (fun h=>b h.1)]
 clear d b;go_wp2_with fail;rw [←f.out] at c;refine c.out _ ⟨rfl,?_⟩;rw [←g.out,←i.out]
 rfl
theorem map_take {X:List Int} {h:List Int} {j:Nat} (a:j<X.length):(X.take (j+1)).map (fun x=>h ++ [x])=(X.take j).map (fun x=>h ++ [x]) ++ [h ++ [X.getD j 0]]:=by
 rw [List.take_succ_eq_append_getElem a,List.map_append,zZ,zX a]
 rfl
theorem Ft (w:World):Calls Tryz.prog 32 #[.nilIface] w fun e w'=>e=.returned (.int .i64 0)∧w'=w:=by
 go_enter Tryz.func32,Tryz.ntmps32
 go_wp2;go_ret;exact ⟨rfl,rfl⟩
theorem Fr (c:Int) (w:World) (b:gH w):Rt 32 #[.iface 68 (.int .i64 c)] w (.int .i64 c):=by
 have h:=Hk c w.heap.size (w.alloc (.cells #[.int .i64 0] 68)) (b.later ((zS).alloc (zT) _)) (by simp) (by simp) (by simp)
 go_enter Tryz.func32,Tryz.ntmps32
 go_wp2_with fail;refine h.mono ?_;rintro e w1 ⟨rfl,a⟩;have d:Bl w w1:=by rw [a];go_grown
 have f:w1.cell? ⟨w.heap.size,0,none⟩=some (.int .i64 c):=by
  rw [a];refine World.cell?_setCell_same _ _ _ (u:=.int .i64 0) ?_;rw [World.cell?_alloc_lt _ _ ⟨w.heap.size,0,none⟩ (by first | (simp;done) | (simp;omega)),World.cell?_alloc_lt _ _ ⟨w.heap.size,0,none⟩ (by first | (simp;done) | (simp;omega)),World.cell?_alloc_lt _ _ ⟨w.heap.size,0,none⟩ (by first | (simp;done) | (simp;omega)),World.cell?_alloc_lt _ _ ⟨w.heap.size,0,none⟩ (by first | (simp;done) | (simp;omega))]
  simp
 clear a h b;go_wp2_with fail;go_ret;exact ⟨rfl,d⟩
theorem Fb (n:Int) (w:World):Rt 10 #[.nilIface,.int .i64 n] w (.bool (0 == n)):=by
 go_enter Tryz.func10,Tryz.ntmps10
 go_wp2_with (go_at_call 32;refine (Ft _).mono ?_;rintro e w1 ⟨rfl,rfl⟩)
 go_ret;exact ⟨rfl,zS⟩
theorem Fa (c n:Int) (w:World) (b:gH w):Rt 10 #[.iface 68 (.int .i64 c),.int .i64 n] w (.bool (c == n)):=by
 go_enter Tryz.func10,Tryz.ntmps10
 go_wp2_with fail;refine (Fr c _ b).mono ?_;rintro e w1 ⟨rfl,a⟩;go_wp2_with fail;go_ret;exact ⟨rfl,a⟩
theorem Cf (c:Int) (w:World) (a:gH w):Rt 10 #[errV c,.int .i64 c] w (.bool true):=by
 by_cases h:c=0
 ·subst h
  have:=Fb 0 w;rw [errV_zero];exact this
 have:=Fa c c w a;rw [aj h]
 simpa using this
set_option maxHeartbeats 16000000
section
variable (D:Nat→Dm) (n:Nat) (l:List En) (p:List Int) (row col:Int)
noncomputable def DC:Int:=if cuErr D n l≠0 then cuErr D n l else placeErr D n p
noncomputable def Hs:Int:=if DC D n l p=0∧(aH n row=true∨aH n col=true) then 1 else DC D n l p
theorem Li:(if Hs D n l p row col=0∧row=col then 3 else Hs D n l p row col)=kF D n l p row col:=by
 unfold kF Hs DC
 by_cases a:cuErr D n l=0
 ·by_cases b:placeErr D n p=0
  ·by_cases c:aH n row=true∨aH n col=true
   ·simp [a,b,c]
   simp only [a,b,ne_eq,not_true_eq_false,if_false,c,and_false,true_and]
  simp [a,b]
 simp [a]
theorem Ht (h:DC D n l p=0):p.length=n:=by
 unfold DC at h
 split at h
 ·rename_i h1;exact absurd h h1
 exact (iw h).len
variable (R K:List Int) (Z:List (List (Int×Int)))
def IK:Int:=if (ah D n).2.2=0 then bI R.length K.length Z else (ah D n).2.2
def G5:Int:=if IK D n R K Z=0∧(aH n row=true∨aH n col=true) then 1 else IK D n R K Z
def IL:Int:=if G5 D n row col R K Z=0 then (if R.any (aH (D row.toNat).n)=true then 1 else 0) else G5 D n row col R K Z
theorem Lk:(if IL D n row col R K Z=0 then (if K.any (aH (D col.toNat).n)=true then 1 else 0) else IL D n row col R K Z)=k8 D n R K Z row col:=by
 unfold IL G5 IK k8
 by_cases a:(ah D n).2.2=0
 ·by_cases b:bI R.length K.length Z=0
  ·by_cases d:aH n row=true∨aH n col=true
   ·simp [a,b,d]
   simp only [a,b,d,and_false,if_false,if_true,ne_eq,not_true_eq_false]
   by_cases c:R.any (aH (D row.toNat).n)=true
   ·simp [c]
   by_cases e:K.any (aH (D col.toNat).n)=true
   ·simp [c,e]
   simp [c,e]
  simp [a,b]
 simp [a]
theorem DP (h:G5 D n row col R K Z=0):aH n row=false∧aH n col=false:=by
 unfold G5 at h
 by_cases a:IK D n R K Z=0∧(aH n row=true∨aH n col=true)
 ·rw [if_pos a] at h;cases h
 rw [if_neg a] at h;have:=fun x=>a ⟨h,x⟩
 simpa using this
theorem Ib (h:IL D n row col R K Z=0):aH n col=false:=by
 unfold IL at h
 by_cases a:G5 D n row col R K Z=0
 ·exact (DP D n row col R K Z a).2
 rw [if_neg a] at h;exact absurd h a
end
theorem GW.later {w w':World} {q:Nat} {R K:List Int} {Z:List (List (Int×Int))} (h:GW w q R K Z) (a:Bl w w'):GW w' q R K Z:=by
 obtain ⟨Ar,cr,Ac,cc,Ag,cg,zz,b,c,d,e,f⟩:=h;exact ⟨Ar,cr,Ac,cc,Ag,cg,zz,(a.block q (zY b).1).trans b,c.later a,d.later a,e.later a,f⟩
theorem ze {w:World} {q a:Nat} {R K:List Int} {Z:List (List (Int×Int))} (l:R.length≤1048576) (k:K.length≤1048576) (m:Z.length≤1048576) (n:∀ L∈Z,L.length≤1048576) (h:GW w q R K Z) (j:GW w a R K Z):∃ g0 g1 g2 k0 k1 k2,(w.cell? ⟨q,0,none⟩=some g0∧w.cell? ⟨q,1,none⟩=some g1∧w.cell? ⟨q,2,none⟩=some g2)∧(w.cell? ⟨a,0,none⟩=some k0∧w.cell? ⟨a,1,none⟩=some k1∧w.cell? ⟨a,2,none⟩=some k2)∧Rt 11 #[.agg #[g0,g1,g2],.agg #[k0,k1,k2]] w (.bool true):=by
 obtain ⟨Ar,cr,Ac,cc,Ag,cg,zz,a1,a2,a3,a4,a5⟩:=h;obtain ⟨Br,i,Bc,f,Bg,g,o,b1,b2,b3,b4,b5⟩:=j;obtain ⟨c0,c1,c2,-⟩:=de a1;obtain ⟨c,d,e,-⟩:=de b1;refine ⟨_,_,_,_,_,_,⟨c0,c1,c2⟩,⟨c,d,e⟩,sd Ar cr Ac cc Ag cg zz Br i Bc f Bg g o R K w l k ?_ ?_ a2 a3 a4 b2 b3 b4 (a5.trans b5.symm)⟩
 ·rw [←eb,a5];exact m
 intro x b;exact n x.L (by rw [←a5];exact List.mem_map.2 ⟨x,b,rfl⟩)
theorem zj {f:Nat→Nat→Int×Int} {r c:Nat} {L:List (Int×Int)} (h:L∈ss f r c):L.length=c:=by
 obtain ⟨i,-,rfl⟩:=List.mem_map.1 h
 simp
theorem D7 (D:Nat→Dm) (n:Nat) (l:List En) (p:List Int) (row col:Int):(Bf D n l p row col).length≤1048576∧(Be D n l p row col).length≤1048576∧(yQ D n l p row col).length≤1048576∧∀ L∈yQ D n l p row col,L.length≤1048576:=by
 by_cases a:kF D n l p row col=0
 ·obtain ⟨g,k,i,m,rfl,rfl,h,j,-⟩:=qy a
  obtain ⟨d,e,f⟩:=D5 a;obtain ⟨-,-,-,c⟩:=aw (iw k).right;have o:=c i h;have q:=c m j;rw [d,e,f,risL_len,risL_len,mN];exact ⟨by omega,by omega,by omega,fun L b=>by rw [zj b];omega⟩
 unfold Bf Be yQ;rw [if_neg a,if_neg a,if_neg a];exact ⟨by simp,by simp,by simp,fun L b=>by cases b⟩
theorem Fu (E:Int) {R K:List Int} (Z:List (List (Int×Int))) (d:R.length≤1048576) (c:K.length≤1048576):(uY E K).length≤1048576∧(uY E R).length≤1048576∧(CI E Z R.length K.length).length≤1048576∧∀ L∈CI E Z R.length K.length,L.length≤1048576:=by
 unfold uY CI
 by_cases a:E=0
 ·rw [if_pos a,if_pos a,if_pos a]
  unfold K4;rw [mN];exact ⟨c,d,c,fun L b=>by rw [zj b];exact d⟩
 rw [if_neg a,if_neg a,if_neg a];exact ⟨by simp,by simp,by simp,fun L b=>by cases b⟩
def Kw (w:World) (R K:List Int) (Z:List (List (Int×Int))) (E:Int) (Y0:Option Addr) (m0 d0:Nat) (Y1:Option Addr) (m1 d1:Nat) (Y2:Option Addr) (m2 d2:Nat) (er:Value) (w1:World):Prop := ∃ zz:List CsL,m0=R.length∧m1=K.length∧m2=zz.length∧er=errV E∧aO w1 Y0 d0 R∧aO w1 Y1 d1 K∧eQ w1 Y2 d2 zz∧lZ zz=Z∧Bl w w1
theorem D9 {F:Nat} {args:Array Value} {w:World} {R K:List Int} {Z:List (List (Int×Int))} {E:Int} (h:Calls Tryz.prog F args w (iQ w R K Z E)):Calls Tryz.prog F args w fun e w' => ∃ Y0 m0 d0 Y1 m1 d1 Y2 m2 d2 er,e=.returned (.tuple #[.agg #[.slice Y0 m0 d0,.slice Y1 m1 d1,.slice Y2 m2 d2],er])∧Kw w R K Z E Y0 m0 d0 Y1 m1 d1 Y2 m2 d2 er w':=by
 refine h.mono ?_;rintro e w1 ⟨⟨Ar,cr,Ac,cc,Ag,cg,zz,rfl,a,b,c,d⟩,f⟩;exact ⟨_,_,_,_,_,_,_,_,_,_,rfl,zz,rfl,rfl,rfl,rfl,a,b,c,d,f⟩
theorem D8 {w w1 w':World} {R K:List Int} {Z:List (List (Int×Int))} {E:Int} {Y0 Y1 Y2:Option Addr} {m0 b m1 c m2 d:Nat} {e:Value} (h:Kw w R K Z E Y0 m0 b Y1 m1 c Y2 m2 d e w1) (a:Bl w1 w') (l:w'.heap[w1.heap.size]?=some (.cells #[.slice Y0 m0 b,.slice Y1 m1 c,.slice Y2 m2 d] 30 (0,0))):GW w' w1.heap.size R K Z∧e=errV E∧Bl w w':=by
 obtain ⟨zz,rfl,rfl,rfl,rfl,f,g,i,j,k⟩:=h;exact ⟨⟨Y0,b,Y1,c,Y2,d,zz,l,f.later a,g.later a,i.later a,j⟩,rfl,ae k a⟩
theorem Ad (a0 a1 a2 a3 a4 a5:Value):aP (#[a0,a1,a2,a3,a4,a5] ++ Array.replicate 420 undef) (fun i=>[a0,a1,a2,a3,a4,a5].getD i undef)∧(fun i=>[a0,a1,a2,a3,a4,a5].getD i undef:Nat→Value) 0=a0∧(fun i=>[a0,a1,a2,a3,a4,a5].getD i undef:Nat→Value) 1=a1∧(fun i=>[a0,a1,a2,a3,a4,a5].getD i undef:Nat→Value) 2=a2∧(fun i=>[a0,a1,a2,a3,a4,a5].getD i undef:Nat→Value) 3=a3∧(fun i=>[a0,a1,a2,a3,a4,a5].getD i undef:Nat→Value) 4=a4∧(fun i=>[a0,a1,a2,a3,a4,a5].getD i undef:Nat→Value) 5=a5 :=
 ⟨⟨by simp,by rw [Array.toList_append,Array.toList_replicate];rfl⟩,rfl,rfl,rfl,rfl,rfl,rfl⟩
theorem I1 (T:Array Value) (s:Nat→Value) (w:World) (h:aP T s) (a:s 23=.bool true) (b:s 24=.bool true) (c:s 26=.bool true) (d:s 32=.bool true) (e:s 33=.bool true) (f:s 43=.bool true) (g:s 44=.bool true) (R:Ending→World→Prop) (i:R (.returned (.bool true)) w):Code.wp Tryz.prog (IJ 27) (bodyPost Tryz.prog Tryz.f3 R) ⟨T,[]⟩ w:=by
 obtain ⟨x,rfl⟩:=am h;unfold a7;rw [a,b,c,d,e,f,g];have j:=aa i;clear i h a b c d e f g
 conv=>arg 2;whnf
 go_wp2_with fail;exact j.out
theorem vP (A0:Option Addr) (cap n:Nat) (D:Nat→Dm) (A:Nat→Option Addr) (C:Nat→Nat) (AE:Option Addr) (ce:Nat) (l:List EnL) (Ap:Option Addr) (Y:Nat) (p:List Int) (row col:Int) (Ar:Option Addr) (R:List Int) (cr:Nat) (Ac:Option Addr) (K:List Int) (cc:Nat) (Ag':Option Addr) (cg:Nat) (zz:List CsL) (w:World) (hn:zz.length≤1048576) (hx:∀ x∈zz,x.L.length≤1048576) (hR:R.length≤1048576) (hK:K.length≤1048576) (hM:bd w A0 cap n D A C) (hEn:ii w AE ce l) (hP:aO w Ap Y p) (hPr:aO w Ar cr R) (hPk:aO w Ac cc K) (hZ:eQ w Ag' cg zz) (hT:rf w) (hKd:gH w) :
  Rt 3 #[.agg #[.slice A0 n cap],.slice AE l.length ce,.slice Ap p.length Y,.int .i64 row,.int .i64 col,.agg #[.slice Ar R.length cr,.slice Ac K.length cc,.slice Ag' zz.length cg]] w (.bool true):=by
 have B:=qv w (.slice A0 n cap) (.slice Ar R.length cr) (.slice Ac K.length cc) (.slice Ag' zz.length cg);obtain ⟨b1,b2⟩:=DQ w (.slice A0 n cap) (.slice Ar R.length cr) (.slice Ac K.length cc) (.slice Ag' zz.length cg);obtain ⟨W,hW⟩:=ax (G8 w (.slice A0 n cap) (.slice Ar R.length cr) (.slice Ac K.length cc) (.slice Ag' zz.length cg));rw [hW] at B b1 b2;have l1:=(zY b1).1;have l2:=(zY b2).1;have hc:∀ w',Bl W w'→w'.cell? ⟨w.heap.size,0,none⟩=some (.slice A0 n cap):=fun w' h=>(Lib.cell_of_heap ((h.block _ l1).trans b1) 0).trans rfl
 have H:Ctx13 Ar cr R Ac cc K Ag' cg zz (w.heap.size+1) W:=⟨hR,hK,hn,hx,hPr.later B,hPk.later B,hZ.later B,fun w' h=>(h.block _ l2).trans b2⟩
 have G:=hM.later B;have hE0:=hEn.later B;have hP0:=hP.later B;have Q:∀ (c:Int) (w':World),Bl W w'→Rt 10 #[errV c,.int .i64 c] w' (.bool true):=fun c w' b=>Cf c w' (hKd.later (ae B b))
 refine calls_of_wp (c:=IJ 0) Tryz.func3 rfl ?_;rw [Tryz.ntmps3];simp only [List.size_toArray,List.length_cons,List.length_nil,Nat.reduceAdd,Nat.reduceSub];obtain ⟨f,h0,Z,X,m,o,h5⟩:=Ad (.agg #[.slice A0 n cap]) (.slice AE l.length ce) (.slice Ap p.length Y) (.int .i64 row) (.int .i64 col) (.agg #[.slice Ar R.length cr,.slice Ac K.length cc,.slice Ag' zz.length cg]);generalize (#[.agg #[.slice A0 n cap],.slice AE l.length ce,.slice Ap p.length Y,.int .i64 row,.int .i64 col,.agg #[.slice Ar R.length cr,.slice Ac K.length cc,.slice Ag' zz.length cg]] ++ Array.replicate 420 undef:Array Value)=T at f ⊢;generalize (fun i=>[.agg #[.slice A0 n cap],.slice AE l.length ce,.slice Ap p.length Y,.int .i64 row,.int .i64 col,.agg #[.slice Ar R.length cr,.slice Ac K.length cc,.slice Ag' zz.length cg]].getD i undef:Nat→Value)=s at f h0 Z X m o h5
 refine bB (k:=0) rfl fun J d=>KM T s A0 Ar Ac Ag' n cap R.length cr K.length cc zz.length cg w f h0 h5 _ _ fun T f=>d _ _ ?_
 rw [hW];clear d J h0 h5;have q:cJ (cJ (cJ s 6 (.pointer (some ⟨w.heap.size,0,none⟩))) 11 (.pointer (some ⟨w.heap.size+1,0,none⟩))) 12 (.bool false) 6=.pointer (some ⟨w.heap.size,0,none⟩):=rfl;have j:cJ (cJ (cJ s 6 (.pointer (some ⟨w.heap.size,0,none⟩))) 11 (.pointer (some ⟨w.heap.size+1,0,none⟩))) 12 (.bool false) 11=.pointer (some ⟨w.heap.size+1,0,none⟩):=rfl;obtain ⟨s1,V⟩:=ax (cJ (cJ (cJ s 6 (.pointer (some ⟨w.heap.size,0,none⟩))) 11 (.pointer (some ⟨w.heap.size+1,0,none⟩))) 12 (.bool false))
 replace Z:s1 1=.slice AE l.length ce:=by rw [←V];exact Z
 replace X:s1 2=.slice Ap p.length Y:=by rw [←V];exact X
 replace m:s1 3=.int .i64 row:=by rw [←V];exact m
 replace o:s1 4=.int .i64 col:=by rw [←V];exact o
 rw [V] at f q j;clear V;have b:=Below.refl W.heap.size W;refine bB (k:=1) rfl fun J d=>KI T s1 _ _ _ (cuErr D n (lE l)) W f Z q (hc _ b) (Ch A0 cap n D A C AE ce l W G hE0) J _ fun T w1 f g=>d _ _ ?_
 clear d J
 replace b:=ae b g
 clear g;refine bB (k:=2) rfl fun J d=>KJ T _ _ _ _ (cuErr D n (lE l)) (DC D n (lE l) p) w1 f X q (aT _ _ _) (hc _ b) (fun h=>by unfold DC;rw [if_pos h]) (fun hz=>?_) J _ fun T w2 f g=>d _ _ ?_
 ·obtain ⟨g1,-⟩:=Di hz
  obtain ⟨hal,-⟩:=kT g1;have:=oR A0 cap n D A C Ap Y p w1 hal (G.later b) (hP0.later b);rw [←Hd hal] at this;unfold DC;rw [if_neg (by simpa using hz)]
  exact this
 clear d J
 replace b:=ae b g
 clear g;refine bB (k:=3) rfl fun J d=>KK T _ Ap p.length Y row col (DC D n (lE l) p) (Hs D n (lE l) p row col) w2 f X m o (aT _ _ _) ?_ J _ fun T f=>d _ _ ?_
 ·unfold Hs
  by_cases h:DC D n (lE l) p=0
  ·rw [Ht D n (lE l) p h]
  simp [h]
 clear d J;refine bB (k:=4) rfl fun J d=>KL T _ row col (Hs D n (lE l) p row col) (kF D n (lE l) p row col) w2 f m o (aT _ _ _) (Li D n (lE l) p row col) J _ fun T f=>d _ _ ?_
 clear d J;obtain ⟨s4,hs4⟩:=ax (cJ (cJ (cJ (cJ s1 13 (.int .i64 (cuErr D n (lE l)))) 13 (.int .i64 (DC D n (lE l) p))) 13 (.int .i64 (Hs D n (lE l) p row col))) 13 (.int .i64 (kF D n (lE l) p row col)));have a:Ag [13] s1 s4:=by rw [←hs4];exact ((((Ag.refl _ _).up (by decide)).up (by decide)).up (by decide)).up (by decide)
 have r:s4 13=.int .i64 (kF D n (lE l) p row col):=by rw [←hs4];exact aT _ _ _
 rw [hs4] at f;clear hs4
 replace Z:=(a 1 (by decide)).trans Z
 replace X:=(a 2 (by decide)).trans X
 replace m:=(a 3 (by decide)).trans m
 replace o:=(a 4 (by decide)).trans o
 replace q:=(a 6 (by decide)).trans q
 replace j:=(a 11 (by decide)).trans j
 clear a;refine bB (k:=5) rfl fun J d=>KN T _ w2 f J _ fun T f=>d _ _ ?_
 clear d J;have hq:W.heap.size≤w2.heap.size:=b.size;have hB5:Bl W (w2.alloc (.cells #[.slice none 0 0,.slice none 0 0,.slice none 0 0] 30)):=ae b (by go_grown)
 refine bB (k:=6) rfl fun J d=>KP A0 cap n D A C AE ce l Ap Y p row col w.heap.size w2.heap.size W G hE0 hP0 hc hq T _ _ f Z X m o q r (aT _ _ _) hB5 (heap_alloc_new ..) J _ fun T s6 w6 f a hB6 U=>d _ _ ?_
 clear d J hB5
 replace Z:=(a 1 (by decide)).trans Z
 replace X:=(a 2 (by decide)).trans X
 replace m:=(a 3 (by decide)).trans m
 replace o:=(a 4 (by decide)).trans o
 replace q:=(a 6 (by decide)).trans q
 replace j:=(a 11 (by decide)).trans j
 replace r:=(a 13 (by decide)).trans r
 have h14:s6 14=.pointer (some ⟨w2.heap.size,0,none⟩):=(a 14 (by decide)).trans (aT _ _ _)
 replace b:=hB6
 clear a hB6;refine bB (k:=7) rfl fun J d=>Ji T s6 w.heap.size (.slice A0 n cap) (.slice AE l.length ce) (.slice Ap p.length Y) (.int .i64 row) (.int .i64 col) (Kw w6 (Bf D n (lE l) p row col) (Be D n (lE l) p row col) (yQ D n (lE l) p row col) (kF D n (lE l) p row col)) w6 f Z X m o q (hc _ b) (D9 (Az A0 cap n D A C AE ce l Ap Y p row col w6 (G.later b) (hE0.later b) (hP0.later b))) J _ fun T Y0 m0 d0 Y1 m1 d1 Y2 m2 d2 er w7 w8 f hX g M=>d _ _ ?_
 clear d J;obtain ⟨hG8,rfl,hb8⟩:=D8 hX g M;clear hX g M
 replace b:=ae b hb8
 replace U:=U.later hb8
 clear hb8;refine bB (k:=8) rfl fun J d=>KQ T _ (kF D n (lE l) p row col) w8 f r (aT _ _ _) (Q _ _ b) J _ fun T w9 f g=>d _ _ ?_
 clear d J
 replace b:=ae b g
 replace U:=U.later g
 replace hG8:=hG8.later g
 clear g;obtain ⟨z1,z2,z3,z4⟩:=D7 D n (lE l) p row col;obtain ⟨g0,g1,g2,k0,k1,k2,c1,c2,z⟩:=ze z1 z2 z3 z4 hG8 U;refine bB (k:=9) rfl fun J d=>KR T _ w7.heap.size w2.heap.size g0 g1 g2 k0 k1 k2 w9 f h14 rfl c1 c2 z J _ fun T w10 f g=>d _ _ ?_
 clear d J z c1 c2 z1 z2 z3 z4 U hG8
 replace b:=ae b g
 clear g;obtain ⟨s9,Lv⟩:=ax (cJ (cJ (cJ (cJ s6 21 (.pointer (some ⟨w7.heap.size,0,none⟩))) 22 (errV (kF D n (lE l) p row col))) 23 (.bool true)) 24 (.bool true));have a:Ag [21,22,23,24] s6 s9:=by rw [←Lv];exact ((((Ag.refl _ _).up (by decide)).up (by decide)).up (by decide)).up (by decide)
 have t:s9 23=.bool true:=by rw [←Lv];rfl
 have u:s9 24=.bool true:=by rw [←Lv];rfl
 rw [Lv] at f;clear Lv r h14
 replace m:=(a 3 (by decide)).trans m
 replace o:=(a 4 (by decide)).trans o
 replace q:=(a 6 (by decide)).trans q
 replace j:=(a 11 (by decide)).trans j
 clear a Z X;refine bB (k:=10) rfl fun J d=>J6 T s9 (w.heap.size+1) _ _ _ (bI R.length K.length (lZ zz)) w10 f j ⟨H.c0 b,H.c1 b,H.c2 b⟩ (pA Ar R.length cr Ac K.length cc Ag' cg zz w10 hn hx (H.hZ.later b)) J _ fun T w11 f g=>d _ _ ?_
 clear d J
 replace b:=ae b g
 clear g;refine bB (k:=11) rfl fun J d=>J7 T _ (w.heap.size+1) _ _ _ (bI R.length K.length (lZ zz)) w11 f j rfl ⟨H.c0 b,H.c1 b,H.c2 b⟩ (j9 Ar R.length cr Ac K.length cc Ag' cg zz w11 hn hx (H.hZ.later b)) (fun w' g=>Q _ _ (ae b g)) J _ fun T w12 f g=>d _ _ ?_
 clear d J
 replace b:=ae b g
 clear g;refine bB (k:=12) rfl fun J d=>Jj T _ w12 f J _ fun T f=>d _ _ ?_
 clear d J;have hq12:W.heap.size≤w12.heap.size:=b.size;have hB12:Bl W (w12.alloc (.cells #[.slice none 0 0,.slice none 0 0,.slice none 0 0] 30)):=ae b (by go_grown)
 obtain ⟨s12,F⟩:=ax (cJ (cJ (cJ s9 25 (.int .i64 (bI R.length K.length (lZ zz)))) 26 (.bool true)) 27 (.pointer (some ⟨w12.heap.size,0,none⟩)));have a:Ag [25,26,27] s9 s12:=by rw [←F];exact (((Ag.refl _ _).up (by decide)).up (by decide)).up (by decide)
 have I:s12 25=.int .i64 (bI R.length K.length (lZ zz)):=by rw [←F];rfl
 have v:s12 26=.bool true:=by rw [←F];rfl
 have Lt:s12 27=.pointer (some ⟨w12.heap.size,0,none⟩):=by rw [←F];rfl
 rw [F] at f;clear F
 replace m:=(a 3 (by decide)).trans m
 replace o:=(a 4 (by decide)).trans o
 replace q:=(a 6 (by decide)).trans q
 replace j:=(a 11 (by decide)).trans j
 replace t:=(a 23 (by decide)).trans t
 replace u:=(a 24 (by decide)).trans u
 clear a;refine bB (k:=13) rfl fun J d=>JZ H w12.heap.size hq12 T s12 _ f j I Lt hB12 (heap_alloc_new ..) J _ fun T s13 w13 f a hB13 E=>d _ _ ?_
 clear d J hB12
 replace b:=hB13
 clear hB13
 replace m:=(a 3 (by decide)).trans m
 replace o:=(a 4 (by decide)).trans o
 replace q:=(a 6 (by decide)).trans q
 replace j:=(a 11 (by decide)).trans j
 replace t:=(a 23 (by decide)).trans t
 replace u:=(a 24 (by decide)).trans u
 replace I:=(a 25 (by decide)).trans I
 replace v:=(a 26 (by decide)).trans v
 replace Lt:=(a 27 (by decide)).trans Lt
 clear a;refine bB (k:=14) rfl fun J d=>Jw T s13 (w.heap.size+1) _ _ _ (Kw w13 (uY (bI R.length K.length (lZ zz)) K) (uY (bI R.length K.length (lZ zz)) R) (CI (bI R.length K.length (lZ zz)) (lZ zz) R.length K.length) (bI R.length K.length (lZ zz))) w13 f j (H.c0 b) (H.c1 b) (H.c2 b) (D9 (AF Ar R cr Ac K cc Ag' cg zz w13 hn hx hR hK (H.hPr.later b) (H.hPk.later b) (H.hZ.later b))) J _ fun T Y0 m0 d0 Y1 m1 d1 Y2 m2 d2 er w14 w15 f hX g M=>d _ _ ?_
 clear d J;obtain ⟨S,rfl,Lu⟩:=D8 hX g M;clear hX g M
 replace b:=ae b Lu
 replace E:=E.later Lu
 clear Lu;refine bB (k:=15) rfl fun J d=>J8 T _ (bI R.length K.length (lZ zz)) w15 f (aT _ _ _) I (Q _ _ b) J _ fun T w16 f g=>d _ _ ?_
 clear d J
 replace b:=ae b g
 replace E:=E.later g
 replace S:=S.later g
 clear g;obtain ⟨z1,z2,z3,z4⟩:=Fu (bI R.length K.length (lZ zz)) (lZ zz) hR hK;obtain ⟨g0,g1,g2,k0,k1,k2,c1,c2,z⟩:=ze z1 z2 z3 z4 S E;refine bB (k:=16) rfl fun J d=>J9 T _ w14.heap.size w12.heap.size g0 g1 g2 k0 k1 k2 w16 f Lt rfl c1 c2 z J _ fun T w17 f g=>d _ _ ?_
 clear d J z c1 c2 z1 z2 z3 z4 E S
 replace b:=ae b g
 clear g;obtain ⟨s16,N⟩:=ax (cJ (cJ (cJ (cJ s13 31 (.pointer (some ⟨w14.heap.size,0,none⟩))) 22 (errV (bI R.length K.length (lZ zz)))) 32 (.bool true)) 33 (.bool true));have a:Ag [31,22,32,33] s13 s16:=by rw [←N];exact ((((Ag.refl _ _).up (by decide)).up (by decide)).up (by decide)).up (by decide)
 have O:s16 32=.bool true:=by rw [←N];rfl
 have P:s16 33=.bool true:=by rw [←N];rfl
 rw [N] at f;clear N Lt
 replace m:=(a 3 (by decide)).trans m
 replace o:=(a 4 (by decide)).trans o
 replace q:=(a 6 (by decide)).trans q
 replace j:=(a 11 (by decide)).trans j
 replace t:=(a 23 (by decide)).trans t
 replace u:=(a 24 (by decide)).trans u
 replace I:=(a 25 (by decide)).trans I
 replace v:=(a 26 (by decide)).trans v
 clear a;refine bB (k:=17) rfl fun J d=>Ka T s16 w.heap.size (.slice A0 n cap) (ah D n).2.2 w17 f q (hc _ b) (oS A0 cap n D A C w17 (G.later b)) J _ fun T w18 f g=>d _ _ ?_
 clear d J
 replace b:=ae b g
 clear g;refine bB (k:=18) rfl fun J d=>Kb T _ (ah D n).2.2 (bI R.length K.length (lZ zz)) (IK D n R K (lZ zz)) w18 f rfl I rfl J _ fun T f=>d _ _ ?_
 clear d J;refine bB (k:=19) rfl fun J d=>Kc T _ w.heap.size A0 n cap row col (IK D n R K (lZ zz)) (G5 D n row col R K (lZ zz)) w18 f m o q rfl (hc _ b) rfl J _ fun T f=>d _ _ ?_
 clear d J;refine bB (k:=20) rfl fun J d=>J0 H A0 cap n D A C w.heap.size row (G5 D n row col R K (lZ zz)) G hc (fun h=>(DP D n row col R K (lZ zz) h).1) T _ w18 f m q j rfl b J _ fun T s20 w20 f a r g=>d _ _ ?_
 clear d J
 replace b:=ae b g
 clear g
 replace m:=(a 3 (by decide)).trans m
 replace o:=(a 4 (by decide)).trans o
 replace q:=(a 6 (by decide)).trans q
 replace j:=(a 11 (by decide)).trans j
 replace t:=(a 23 (by decide)).trans t
 replace u:=(a 24 (by decide)).trans u
 replace v:=(a 26 (by decide)).trans v
 replace O:=(a 32 (by decide)).trans O
 replace P:=(a 33 (by decide)).trans P
 clear a I;refine bB (k:=21) rfl fun J d=>J1 H A0 cap n D A C w.heap.size col (IL D n row col R K (lZ zz)) G hc (fun h=>Ib D n row col R K (lZ zz) h) T s20 w20 f o q j r b J _ fun T s21 w21 f a r g=>d _ _ ?_
 clear d J
 replace b:=ae b g
 clear g;rw [Lk] at r
 replace m:=(a 3 (by decide)).trans m
 replace o:=(a 4 (by decide)).trans o
 replace q:=(a 6 (by decide)).trans q
 replace j:=(a 11 (by decide)).trans j
 replace t:=(a 23 (by decide)).trans t
 replace u:=(a 24 (by decide)).trans u
 replace v:=(a 26 (by decide)).trans v
 replace O:=(a 32 (by decide)).trans O
 replace P:=(a 33 (by decide)).trans P
 clear a;refine bB (k:=22) rfl fun J d=>JF T s21 w21 f J _ fun T f=>d _ _ ?_
 clear d J;refine bB (k:=23) rfl fun J d=>J2 H A0 cap n D A C w.heap.size row col G hc T _ w21 f m o q j r (aT _ _ _) b J _ fun T s23 w23 A' c' f a h36 hV g=>d _ _ ?_
 clear d J
 replace b:=ae b g
 clear g
 replace m:=(a 3 (by decide)).trans m
 replace o:=(a 4 (by decide)).trans o
 replace q:=(a 6 (by decide)).trans q
 replace j:=(a 11 (by decide)).trans j
 replace r:=(a 13 (by decide)).trans r
 replace t:=(a 23 (by decide)).trans t
 replace u:=(a 24 (by decide)).trans u
 replace v:=(a 26 (by decide)).trans v
 replace O:=(a 32 (by decide)).trans O
 replace P:=(a 33 (by decide)).trans P
 clear a;refine bB (k:=24) rfl fun J d=>JX T s23 w.heap.size (w.heap.size+1) (.slice A0 n cap) _ _ _ (.int .i64 row) (.int .i64 col) (fun y er w' => ∃ A2 c2,y=.slice A2 (nS D n R K (lZ zz) row col).length c2∧er=errV (k8 D n R K (lZ zz) row col)∧k9 w' A2 c2 (nS D n R K (lZ zz) row col)∧Bl w23 w') w23 f m o q j (hc _ b) (H.c0 b) (H.c1 b) (H.c2 b) ?_ J _ fun T y er w24 f hX=>d _ _ ?_
 ·refine (vM A0 cap n D A C Ar R cr Ac K cc Ag' cg zz row col w23 hn hx hR hK (hT.later (ae B b)) (G.later b) (H.hPr.later b) (H.hPk.later b) (H.hZ.later b)).mono ?_
  rintro e w1 ⟨⟨A2,c2,rfl,hv⟩,g⟩;exact ⟨_,_,rfl,A2,c2,rfl,rfl,hv,g⟩
 clear d J;obtain ⟨A2,c2,rfl,rfl,hV2,g⟩:=hX
 replace b:=ae b g
 replace hV:=hV.later g
 clear g;refine bB (k:=25) rfl fun J d=>Kd T _ (k8 D n R K (lZ zz) row col) w24 f r (aT _ _ _) (Q _ _ b) J _ fun T w25 f g=>d _ _ ?_
 clear d J
 replace b:=ae b g
 replace hV:=hV.later g
 replace hV2:=hV2.later g
 clear g;have hll:(nS D n R K (lZ zz) row col).length≤1048577:=by
  unfold nS
  split
  ·rw [lns_len];omega
  simp
 refine bB (k:=26) rfl fun J d=>JY T _ _ _ w25 f h36 rfl (pJ A2 A' c2 c' (nS D n R K (lZ zz) row col) w25 hll hV2 hV) J _ fun T w26 f g=>d _ _ ?_
 clear d J;exact I1 T _ w26 f t u v O P rfl rfl _ ⟨rfl,ae B (ae b g)⟩
theorem wW {H:Type} {enc:TypeId×Value→H} {P:Program} {f:Func} {s:ChangeSpec} {apart d a:Bool} {W W':World} {args:Array Value} {v:Value} {i gs:List (DataW H)} {before pa pv:List MemPlace}
  (m:DataW.Whole enc P f.params.toList s.vars apart W args.toList i gs before)
  (k:∀ (b:Nat) (sp:Nat→Bool) (n:Bool),DataW.TrodAll enc P W' b sp n f.resultTypes.toList (v.resultList f.resultTypes.size) (s.fn H (i ++ gs)).results [])
  (e:∀ sp:Nat→Bool,(∀ p∈before,sp p.block=true)→DataW.TrodAll enc P W' 0 sp true f.params.toList args.toList (s.fn H (i ++ gs)).args pa)
  (g:∀ sp:Nat→Bool,(∀ p∈before,sp p.block=true)→DataW.TrodVars enc P W' sp s.vars (s.fn H (i ++ gs)).vars pv)
  (l:before=pa ++ pv) (o:W.keptBut W' (·∈before)) :
  s.post enc P f apart d a false W args v W':=by
 have c:∀ p∈before,(fun b=>decide (b<W.heap.size)) p.block=true:=fun p j=>by simpa using m.lt p j
 refine ⟨i,gs,before,[],pa,pv,m,k _ _ _,e _ c,g _ c,World.keptBut_mono (fun p j=>⟨j,?_⟩) o,fun h=>by cases h⟩
 rw [l,List.mem_append] at j;exact Or.inr j
end Go.Proofs.YthlhjjabkgpenaaGreatDoor
