/- slices.IndexFunc and s -/
import Derived.Deep.Slices
import Derived.Deep.Strs
import Derived.Deep.Fields
import Derived.BigQuiet
import Derived.Test.YtohgnbgamfepoaaGreatDoorJHAD
namespace Go.Proofs.YtohgnbgamfepoaaGreatDoor
open ChangeShapes WideShapes ChangeAt RowKit Go Deep
set_option maxRecDepth 99999
set_option maxHeartbeats 0
def zx (w:World) (b o:Nat) (d:Dm) (A:Option Addr) (c:Nat):Prop:=w.cell? ⟨b,o,none⟩=some (.string d.name)∧w.cell? ⟨b,o+1,none⟩=some (.int .i64 d.solve)∧w.cell? ⟨b,o+2,none⟩=some (.slice A d.n c)∧eh w A c d.n d.mem
def dV (w:World) (b o n:Nat) (D:Nat→Dm) (A:Nat→Option Addr) (C:Nat→Nat):Prop:=b<w.heap.size∧∀ i,i<n→zx w b (o+i*3) (D i) (A i) (C i)
theorem zx.later {w w':World} {b o:Nat} {d:Dm} {A:Option Addr} {c:Nat} (h:zx w b o d A c) (e:b<w.heap.size) (a:Bl w w'):zx w' b o d A c :=
 ⟨aC a e h.1,aC a e h.2.1,aC a e h.2.2.1,h.2.2.2.later a⟩
theorem dV.later {w w':World} {b o n:Nat} {D:Nat→Dm} {A:Nat→Option Addr} {C:Nat→Nat} (h:dV w b o n D A C) (a:Bl w w'):dV w' b o n D A C :=
 ⟨zW h.1 a.size,fun i c=>(h.2 i c).later h.1 a⟩
theorem dV.less {w:World} {b o n m:Nat} {D:Nat→Dm} {A:Nat→Option Addr} {C:Nat→Nat} (h:dV w b o n D A C) (c:m≤n):dV w b o m D A C:=⟨h.1,fun i a=>h.2 i (by omega)⟩
def JU (q:Nat) (w:World) (n:Nat) (D:Nat→Dm) (A:Nat→Option Addr) (C:Nat→Nat) (p:Nat→Bool):Prop := ∀ (i:Nat) (w':World),i<n→Bl w w'→Calls Tryz.prog 125 #[cQ (D i) (A i) (C i),.pointer (some ⟨q,0,none⟩)] w' fun e w''=>e=.returned (.bool (p i))∧Bl w' w''
theorem xv (q b o n cap:Nat) (D:Nat→Dm) (A:Nat→Option Addr) (C:Nat→Nat) (p:Nat→Bool) (w:World) (G:n≤4) (s:dV w b o n D A C) (t:JU q w n D A C p) :
  Rt 153 #[.slice (some ⟨b,o,none⟩) n cap,.func (.func 125) #[] #[.pointer (some ⟨q,0,none⟩)]] w (.int .i64 (findFrom p n 0)):=by
 have u:=aa s;have v:=aa t;clear s t
 go_enter Tryz.func153,Tryz.ntmps153
 go_wp2_with fail
 go_loopg [8] n (fun g s8 wr => ∃ (k:Nat),k≤n∧g=n-k∧s8=.int .i64 k∧findFrom p (n-k) k=findFrom p n 0∧Bl w wr)
 case atStart=>exact ⟨0,zU,rfl,rfl,rfl,zS⟩
 case round =>
  obtain ⟨k,F,rfl,rfl,j,a⟩:=hrel
  by_cases f:k<n
  ·obtain ⟨z,B,E,-⟩:=(u.out.later a).2 k f
   have x:(k:Int)<(n:Int):=by omega
   have m:=aa j;have r:=aa a;have h:n-k=(n-(k+1))+1:=by omega
   have c:=v.out k wr f a;unfold cQ at c;have y:(n:Int)≤4:=by omega
   clear j a;cases hb:p k
   ·rw [hb] at c
    have i:=aa hb;clear hb;go_wp2_with fail;refine c.mono ?_;rintro e w1 ⟨rfl,d⟩;go_wp2_with fail
    go_roundg (n-(k+1))
    case measure=>omega
    case rel=>exact ⟨k+1,by omega,rfl,by go_num,by rw [←m.out,h,be _ i.out],ae r.out d⟩
   rw [hb] at c;have i:=aa hb;clear hb;go_wp2_with fail;refine c.mono ?_;rintro e w1 ⟨rfl,d⟩;go_wp2_with fail;go_ret;exact ⟨by rw [←m.out,h,bu _ i.out];rfl,ae r.out d⟩
  have l:k=n:=by omega
  subst l;go_wp2_with fail;go_ret;exact ⟨by rw [←j,Nat.sub_self];rfl,a⟩
theorem qt (q b o n cap:Nat) (D:Nat→Dm) (A:Nat→Option Addr) (C:Nat→Nat) (p:Nat→Bool) (w:World) (f:n≤4) (c:dV w b o n D A C) (d:JU q w n D A C p) :
  Rt 124 #[.slice (some ⟨b,o,none⟩) n cap,.func (.func 125) #[] #[.pointer (some ⟨q,0,none⟩)]] w (.bool (decide (0≤findFrom p n 0))):=by
 have h:=xv q b o n cap D A C p w f c d;clear c d
 go_enter Tryz.func124,Tryz.ntmps124
 go_wp2_with fail;refine h.mono ?_;rintro e w1 ⟨rfl,a⟩;go_wp2_with fail;go_ret;exact ⟨rfl,a⟩
theorem Eh (d:Dm) (A:Option Addr) (c:Nat) (s:ByteArray) (q:Nat) (w:World) (a:q<w.heap.size) (h:w.cell? ⟨q,0,none⟩=some (.string s)):Rt 125 #[cQ d A c,.pointer (some ⟨q,0,none⟩)] w (.bool (same d.name s)):=by
 unfold cQ
 go_enter Tryz.func125,Tryz.ntmps125
 go_wp2_with fail;go_ret;exact ⟨by simp [same],by go_grown⟩
theorem kK {D:Nat→Dm} {k:Nat} (h:∀ j,j<k→(D j).n≤12) (a:k≤4):prodN D k≤20736:=by
 refine zV (vp h) ?_;exact zV (Nat.pow_le_pow_right (by omega) a) (by decide)
theorem BO (b o n cap:Nat) (D:Nat→Dm) (A:Nat→Option Addr) (C:Nat→Nat) (w:World) (E:n≤4) (i:∀ j,j<n→(D j).n≤12) (h:dV w b o n D A C):Rt 126 #[.agg #[.slice (some ⟨b,o,none⟩) n cap]] w (.int .i64 (prodN D n)):=by
 have l:=aa h;have m:=aa i;clear h i
 go_enter Tryz.func126,Tryz.ntmps126
 go_wp2_with fail
 go_loopg [3,9] n (fun g s3 s9 wr => ∃ (k:Nat),k≤n∧g=n-k∧s9=.int .i64 k∧s3=.int .i64 (prodN D k)∧Bl w wr)
 case atStart=>exact ⟨0,zU,rfl,rfl,rfl,by go_grown⟩
 case round =>
  obtain ⟨k,B,rfl,rfl,rfl,a⟩:=hrel
  by_cases e:k<n
  ·obtain ⟨v,x,y,-⟩:=(l.out.later a).2 k e
   have r:(k:Int)<(n:Int):=by omega
   have u:(n:Int)≤4:=by omega
   have f:prodN D (k+1)≤20736:=kK (fun j z=>m.out j (by omega)) (by omega)
   have c:(prodN D (k+1):Int)=(prodN D k:Int)*((D k).n:Int):=by rw [prodN];exact Int.natCast_mul _ _
   have s:0≤(prodN D k:Int)*((D k).n:Int):=by omega
   have t:(prodN D k:Int)*((D k).n:Int)≤20736:=by omega
   have q:=aa a;have p:=aa c;clear a f c;go_wp2_with fail
   go_roundg (n-(k+1))
   case measure=>omega
   case rel=>exact ⟨k+1,by omega,rfl,by go_num,by rw [p.out],ae q.out (by go_grown)⟩
  have d:k=n:=by omega
  subst d;go_wp2_with fail;go_ret;exact ⟨rfl,a⟩
def aW (w:World) (A0:Option Addr) (cap n:Nat) (D:Nat→Dm) (A:Nat→Option Addr) (C:Nat→Nat):Prop:=n≤cap∧(n=0∨∃ b o,A0=some ⟨b,o,none⟩∧dV w b o n D A C)
theorem aW.later {w w':World} {A0:Option Addr} {cap n:Nat} {D:Nat→Dm} {A:Nat→Option Addr} {C:Nat→Nat} (h:aW w A0 cap n D A C) (e:Bl w w'):aW w' A0 cap n D A C:=by
 obtain ⟨c,a | ⟨b,o,a,d⟩⟩:=h
 ·exact ⟨c,Or.inl a⟩
 exact ⟨c,Or.inr ⟨b,o,a,d.later e⟩⟩
theorem KF {D:Nat→Dm} {n:Nat} (h:4<n):am D n=(-1,-1,4):=by unfold am;rw [if_pos h]
theorem KG {D:Nat→Dm} {n:Nat} (h:n=0):am D n=(-1,-1,5):=by unfold am;rw [if_neg (by omega),if_pos h]
theorem Kk {D:Nat→Dm} {n:Nat} (h : ¬ 4<n) (a : ¬ n=0) (b:(dQ D n 0).2.2≠0):am D n=dQ D n 0:=by unfold am;rw [if_neg h,if_neg a,if_pos b]
theorem KH {D:Nat→Dm} {n:Nat} (h : ¬ 4<n) (a : ¬ n=0) (b:(dQ D n 0).2.2=0) (c:3000<prodN D n):am D n=(-1,-1,4):=by unfold am;rw [if_neg h,if_neg a,if_neg (by simpa using b),if_pos c]
theorem KI {D:Nat→Dm} {n:Nat} (h : ¬ 4<n) (a : ¬ n=0) (b:(dQ D n 0).2.2=0) (c : ¬ 3000<prodN D n):am D n=(-1,-1,0):=by unfold am;rw [if_neg h,if_neg a,if_neg (by simpa using b),if_neg c]
theorem Ka {D:Nat→Dm} {i:Nat} (h:(ay (D i)).2≠0):gF D i=ay (D i):=by unfold gF;rw [if_pos h]
theorem Kb {D:Nat→Dm} {i:Nat} (h:(ay (D i)).2=0) (a:fW D i=true):gF D i=(-1,7):=by unfold gF;rw [if_neg (by simpa using h),if_pos a]
theorem Kc {D:Nat→Dm} {i:Nat} (h:(ay (D i)).2=0) (a:fW D i=false):gF D i=(-1,0):=by unfold gF;rw [if_neg (by simpa using h),if_neg (by simp [a])]
def ax (w:World) (A0:Option Addr) (n cap T:Nat):World:=w.alloc (.cells #[.slice A0 n cap] T)
theorem aH (w:World) (A0:Option Addr) (n cap T:Nat):(ax w A0 n cap T).cell? ⟨w.heap.size,0,none⟩=some (.slice A0 n cap):=by unfold ax;simp
theorem av (w:World) (A0:Option Addr) (n cap T:Nat):(ax w A0 n cap T).heap.size=w.heap.size+1:=by unfold ax;simp
theorem ao (w:World) (A0:Option Addr) (n cap T:Nat):Bl w (ax w A0 n cap T):=by unfold ax;go_grown
theorem sh (A0:Option Addr) (cap n:Nat) (D:Nat→Dm) (A:Nat→Option Addr) (C:Nat→Nat) (w:World) (V:aW w A0 cap n D A C):Rt 88 #[.agg #[.slice A0 n cap]] w (.tuple #[.int .i64 (am D n).1,.int .i64 (am D n).2.1,errV (am D n).2.2]):=by
 by_cases E:4<n
 ·have K0:4<(n:Int):=by omega
  have i:Hid (am D n=(-1,-1,4)):=KF E;clear E V
  go_enter Tryz.func88,Tryz.ntmps88
  go_wp2_with fail;refine bodyPost_ret (v:=.tuple #[.int .i64 (-1),.int .i64 (-1),.iface 63 (.int .i64 4)]) (by simp [results,Tryz.results88,go_sem]) rfl ⟨by rw [i.out];rfl,?_⟩
  go_grown
 have K0:(n:Int)≤4:=by omega
 by_cases B:n=0
 ·have i:Hid (am D n=(-1,-1,5)):=KG B
  have hz:((n:Int) == 0)=true:=by simp [B]
  clear B V E
  go_enter Tryz.func88,Tryz.ntmps88
  go_wp2_with fail;refine bodyPost_ret (v:=.tuple #[.int .i64 (-1),.int .i64 (-1),.iface 63 (.int .i64 5)]) (by simp [results,Tryz.results88,go_sem]) rfl ⟨by rw [i.out];rfl,?_⟩
  go_grown
 have hz:((n:Int) == 0)=false:=by simp;omega
 obtain ⟨hcap,h0 | ⟨b,o,rfl,K⟩⟩:=V
 ·omega
 have Y:(n:Int)≤(cap:Int):=by omega
 have u:=ao w (some ⟨b,o,none⟩) n cap 24;have hS:=av w (some ⟨b,o,none⟩) n cap 24;have U:=aH w (some ⟨b,o,none⟩) n cap 24;obtain ⟨W,X⟩:∃ W,W=ax w (some ⟨b,o,none⟩) n cap 24:=⟨_,rfl⟩;rw [←X] at u hS U;have T:=aa (K.later u);have N:w.heap.size<W.heap.size:=by omega
 clear K;have HW:=aa X;have HA:=aa U;have t:=aa u;clear X U u hS
 go_enter Tryz.func88,Tryz.ntmps88
 go_wp2_with fail
 go_loopg [22] n (fun g s22 wr => ∃ (k:Nat),k≤n∧g=n-k∧s22=.int .i64 k∧dQ D (n-k) k=dQ D n 0∧Bl W wr)
 case atStart=>exact ⟨0,zU,rfl,rfl,rfl,by rw [HW.out];exact zS⟩
 case round =>
  obtain ⟨k,hk,rfl,rfl,M,l⟩:=hrel;have h:=aa l;have R:=aa M;have c0:wr.cell? ⟨w.heap.size,0,none⟩=some (.slice (some ⟨b,o,none⟩) n cap):=aC l N HA.out;have m:=T.out.later l;have O:w.heap.size<wr.heap.size:=zW N l.size;clear M l
  by_cases u9:k<n
  ·obtain ⟨h0,h1,h2,h3⟩:=m.2 k u9
   have hki:(k:Int)<(n:Int):=by omega
   have F:n-k=(n-(k+1))+1:=by omega
   have I:=aT wr (D k) (A k) (C k) 70;have d:=kx (D k) (A k) (C k) (aL wr (D k) (A k) (C k) 70) (h3.later I);unfold cQ at d;have H:=aa m;clear h3 m I
   by_cases x:(ay (D k)).2=0
   ·obtain ⟨e1,hd1,hd2,-⟩:=aI x
    rw [x,e1,errV_zero] at d;have G:=aa x;clear x e1;go_wp2_with fail;refine d.mono ?_;rintro e w1 ⟨rfl,a⟩;have f:Bl wr w1:=ae (aT wr (D k) (A k) (C k) 70) a;have Q:wr.heap.size<w1.heap.size:=by
     have:=a.size;rw [bg] at this
     omega
    have q0:w1.cell? ⟨wr.heap.size,0,none⟩=some (.string (D k).name):=(a.cell (p:=⟨wr.heap.size,0,none⟩) (by show wr.heap.size<_;rw [bg];omega)).trans (dO wr (D k) (A k) (C k) 70).1
    have c1:w1.cell? ⟨w.heap.size,0,none⟩=some (.slice (some ⟨b,o,none⟩) n cap):=aC f O c0;have J:=H.out.later f;have q:=qt wr.heap.size b o k cap D A C (fun j=>same (D j).name (D k).name) w1 (by omega) (J.less (by omega)) (fun j w' _ P=>Eh (D j) (A j) (C j) (D k).name wr.heap.size w' (zW Q P.size) (aC P Q q0))
    change Calls _ _ _ _ (fun e w'=>e=.returned (.bool (fW D k))∧_) at q
    clear a d J q0 c0 h0 h1 h2 H;cases hc:fW D k
    ·rw [hc] at q
     have z:Hid (gF D k=(-1,0)):=Kc G.out hc;clear hc;go_wp2_with fail;refine q.mono ?_;rintro e w2 ⟨rfl,c⟩;go_wp2_with fail
     go_roundg (n-(k+1))
     case measure=>omega
     case rel=>exact ⟨k+1,by omega,rfl,by go_num,by rw [←R.out,F,pU _ (by rw [z.out])],ae (ae h.out f) c⟩
    rw [hc] at q;have z:Hid (gF D k=(-1,7)):=Kb G.out hc;clear hc;go_wp2_with fail;refine q.mono ?_;rintro e w2 ⟨rfl,c⟩;go_wp2_with fail;have s:dQ D n 0=((k:Int),-1,7):=by rw [←R.out,F,iL _ (by rw [z.out];decide),z.out]
    have i:am D n=((k:Int),-1,7):=by rw [Kk (by omega) (by omega) (by rw [s];show (7:Int)≠0;decide),s]
    refine bodyPost_ret (v:=.tuple #[.int .i64 k,.int .i64 (-1),.iface 63 (.int .i64 7)]) (by simp [results,Tryz.results88,go_sem]) rfl ⟨by rw [i];rfl,?_⟩
    exact ae t.out (ae (ae h.out f) c)
   rw [ak x] at d;have z:Hid (gF D k=ay (D k)):=Ka x;have G:=aa x;clear x;go_wp2_with fail;refine d.mono ?_;rintro e w1 ⟨rfl,a⟩;have f:Bl wr w1:=ae (aT wr (D k) (A k) (C k) 70) a;clear a d;go_wp2_with fail;have s:dQ D n 0=((k:Int),(ay (D k)).1,(ay (D k)).2):=by rw [←R.out,F,iL _ (by rw [z.out];exact G.out),z.out]
   have i:am D n=((k:Int),(ay (D k)).1,(ay (D k)).2):=by rw [Kk (by omega) (by omega) (by rw [s];exact G.out),s]
   refine bodyPost_ret (v:=.tuple #[.int .i64 k,.int .i64 (ay (D k)).1,.iface 63 (.int .i64 (ay (D k)).2)]) (by simp [results,Tryz.results88,go_sem]) rfl ⟨by rw [i,ak G.out],?_⟩
   exact ae t.out (ae h.out f)
  have Z:k=n:=by omega
  subst Z;have r:(dQ D k 0).2.2=0:=by rw [←R.out,Nat.sub_self];rfl
  have y:=(jD k 0 r).2;have L:=BO b o k cap D A C wr (by omega) (fun j hj=>(aI (kH (y j (zU) (by omega)))).2.2.1) m
  clear y m
  by_cases S:3000<prodN D k
  ·have K2:3000<(prodN D k:Int):=by omega
   have i:Hid (am D k=(-1,-1,4)):=KH (by omega) (by omega) r S
   clear r S;go_wp2_with fail;refine L.mono ?_;rintro e w2 ⟨rfl,c⟩;go_wp2_with fail;refine bodyPost_ret (v:=.tuple #[.int .i64 (-1),.int .i64 (-1),.iface 63 (.int .i64 4)]) (by simp [results,Tryz.results88,go_sem]) rfl ⟨by rw [i.out];rfl,?_⟩
   exact ae t.out (ae h.out c)
  have K2:(prodN D k:Int)≤3000:=by omega
  have i:Hid (am D k=(-1,-1,0)):=KI (by omega) (by omega) r S
  clear r S;go_wp2_with fail;refine L.mono ?_;rintro e w2 ⟨rfl,c⟩;go_wp2_with fail;refine bodyPost_ret (v:=.tuple #[.int .i64 (-1),.int .i64 (-1),.nilIface]) (by simp [results,Tryz.results88,go_sem]) rfl ⟨by rw [i.out];rfl,?_⟩
  exact ae t.out (ae h.out c)
section
variable {H:Type} {enc:TypeId×Value→H} {w:World} {held:Bool}
theorem lY {P:Program} {base:Nat} {sp:Nat→Bool} {t:TypeId} {b:Array Field} {fuel:Nat} {cs:List Value} {x:DataW H×List MemPlace} (q:P.underlying t=some (.struct b)) (a:oneCellFields P b=true) (h:DataW.trod enc P w base sp held fuel t cs=some x) :
  cs.length=P.cellsOf t∧∃ n,∀ (i:Nat) (f:Field) (v:Value),b[i]?=some f→cs[i]?=some v→∃ y,DataW.trod enc P w base sp held n f.type [v]=some y:=by
 obtain ⟨xs,n,_,_,m,s,l⟩:=DataW.trod_struct q h;refine ⟨m,n,fun i f v c r=>?_⟩
 obtain ⟨p,k⟩:=hone_of a i f c;have o:i<b.size:=(zY c).1;have e:=l i f c;rw [p,k] at e;obtain ⟨d,g⟩:=List.getElem?_eq_some_iff.1 r;have j:(cs.drop i).take 1=[v]:=by rw [List.drop_eq_getElem_cons d,g];rfl
 rw [j,zX (by omega)] at e
 exact ⟨_,e⟩
theorem EA:Tryz.prog.cellsOf 98=4:=by kernel_rfl
theorem Ey:Tryz.prog.cellsOf 70=3:=by kernel_rfl
theorem Ja:Tryz.prog.cellsOf 24=1:=by kernel_rfl
theorem uX {base:Nat} {sp:Nat→Bool} {fuel:Nat} {cs:List Value} {x:DataW H×List MemPlace} (h:DataW.trod enc Tryz.prog w base sp held fuel 98 cs=some x) :
  ∃ m:Mem,cs=[.string m.name,.int .i64 m.parent,.int .i64 m.sign,.string m.formula]:=by
 obtain ⟨f,n,a⟩:=lY Tryz.underlying98 (by kernel_rfl) h
 rw [EA] at f
 match cs,f with
 | [v0,v1,v2,v3],_ =>
  obtain ⟨l,g⟩:=a 0 _ v0 rfl rfl;obtain ⟨o,i⟩:=a 1 _ v1 rfl rfl;obtain ⟨p,j⟩:=a 2 _ v2 rfl rfl;obtain ⟨q,k⟩:=a 3 _ v3 rfl rfl;obtain ⟨s0,b,-,-⟩:=DataW.trod_string Tryz.underlying9 g;obtain ⟨n1,c,-,-⟩:=DataW.trod_int Tryz.underlying3 i;obtain ⟨n2,d,-,-⟩:=DataW.trod_int Tryz.underlying3 j;obtain ⟨s3,e,-,-⟩:=DataW.trod_string Tryz.underlying9 k
  simp at b c d e
  exact ⟨⟨s0,n1,n2,s3⟩,by rw [b,c,d,e]⟩
theorem ft {a:Addr} {k:Nat} {v:Value} (h:w.cell? (a.add k)=some v) (b:k=0):a=⟨a.block,a.off,none⟩:=by
 subst b;have e:(a.add 0)=a:=by simp [Addr.add]
 rw [e] at h;have:=World.cell?_spot h;cases a
 simp_all
theorem aK (b o k:Nat):(⟨b,o,none⟩:Addr).add k=⟨b,o+k,none⟩:=by
 unfold Addr.add
 by_cases a:k=0
 ·subst a;simp
 rw [if_neg a]
theorem sM {fuel:Nat} {cs:List Value} {x:DataW H×List MemPlace} (h:DataW.trod enc Tryz.prog w 0 (fun _=>true) held fuel 68 cs=some x) :
  ∃ (A:Option Addr) (cap n:Nat) (M:Nat→Mem),cs=[.slice A n cap]∧eh w A cap n M:=by
 rcases open_slice Tryz.underlying68 h with ⟨rfl,-⟩ | ⟨a,len,cap,m,n,D,Pl,rfl,-,q,-,f,-,j⟩
 ·exact ⟨none,0,0,fun _=>⟨default,0,0,default⟩,rfl,zT,Or.inl rfl⟩
 rw [EA] at j
 simp at f
 subst f
 haveI:Inhabited Mem:=⟨⟨default,0,0,default⟩⟩
 have c:∀ i,i<len→∃ y:Mem,w.cells? 0 (a.add (i*4)) 4=some [.string y.name,.int .i64 y.parent,.int .i64 y.sign,.string y.formula]:=fun i e=>by
  obtain ⟨k,l,o⟩:=j i (by omega)
  obtain ⟨y,rfl⟩:=uX o;exact ⟨y,l⟩
 obtain ⟨M,d⟩:=choose_lt c;refine ⟨some a,_,len,M,rfl,q,?_⟩
 rcases Nat.eq_zero_or_pos len with h0 | h0
 ·exact Or.inl h0
 right
 have c0:=(World.cells?_some (d 0 h0)).2.2 0 (by omega)
 rw [add_add] at c0;have g:=ft c0 (by omega)
 have p:=World.block_lt_of_cell? _ _ c0;refine ⟨a.block,a.off,by rw [←g],by simpa [Addr.add] using p,fun i e=>?_⟩
 have b:=(World.cells?_some (d i e)).2.2;rw [g] at b;simp only [aK,Nat.add_assoc] at b;refine ⟨?_,?_,?_,?_⟩
 ·have:=b 0 (by omega);simpa using this
 ·have:=b 1 (by omega);simpa [Nat.add_assoc] using this
 ·have:=b 2 (by omega);simpa [Nat.add_assoc] using this
 have:=b 3 (by omega);simpa [Nat.add_assoc] using this
theorem FX {fuel:Nat} {cs:List Value} {x:DataW H×List MemPlace} (h:DataW.trod enc Tryz.prog w 0 (fun _=>true) held fuel 70 cs=some x) :
  ∃ (d:Dm) (A:Option Addr) (c:Nat),cs=[.string d.name,.int .i64 d.solve,.slice A d.n c]∧eh w A c d.n d.mem:=by
 obtain ⟨g,n,a⟩:=lY Tryz.underlying70 (by kernel_rfl) h
 rw [Ey] at g
 match cs,g with
 | [v0,v1,v2],_ =>
  obtain ⟨o,i⟩:=a 0 _ v0 rfl rfl;obtain ⟨p,j⟩:=a 1 _ v1 rfl rfl;obtain ⟨q,l⟩:=a 2 _ v2 rfl rfl;obtain ⟨s0,b,-,-⟩:=DataW.trod_string Tryz.underlying9 i;obtain ⟨n1,e,-,-⟩:=DataW.trod_int Tryz.underlying3 j;obtain ⟨A,cap,k,M,f,m⟩:=sM l
  simp at b e f
  exact ⟨⟨s0,n1,k,M⟩,A,cap,by rw [b,e,f],m⟩
theorem CK {fuel:Nat} {cs:List Value} {x:DataW H×List MemPlace} (h:DataW.trod enc Tryz.prog w 0 (fun _=>true) held fuel 22 cs=some x) :
  ∃ (A0:Option Addr) (cap n:Nat) (D:Nat→Dm) (A:Nat→Option Addr) (C:Nat→Nat),cs=[.slice A0 n cap]∧aW w A0 cap n D A C:=by
 rcases open_slice Tryz.underlying22 h with ⟨rfl,-⟩ | ⟨a,len,cap,m,n,D,Pl,rfl,-,s,-,f,-,l⟩
 ·exact ⟨none,0,0,fun _=>⟨default,0,0,fun _=>⟨default,0,0,default⟩⟩,fun _=>none,fun _=>0,rfl,zT,Or.inl rfl⟩
 rw [Ey] at l
 simp at f
 subst f
 haveI:Inhabited Dm:=⟨⟨default,0,0,fun _=>⟨default,0,0,default⟩⟩⟩
 have b:∀ i,i<len→∃ y:Dm×Option Addr×Nat,w.cells? 0 (a.add (i*3)) 3=some [.string y.1.name,.int .i64 y.1.solve,.slice y.2.1 y.1.n y.2.2]∧eh w y.2.1 y.2.2 y.1.n y.1.mem:=fun i j=>by
  obtain ⟨o,p,q⟩:=l i (by omega)
  obtain ⟨d,A,c,rfl,f⟩:=FX q;exact ⟨(d,A,c),p,f⟩
 obtain ⟨Y,g⟩:=choose_lt b;refine ⟨some a,_,len,fun i=>(Y i).1,fun i=>(Y i).2.1,fun i=>(Y i).2.2,rfl,s,?_⟩
 rcases Nat.eq_zero_or_pos len with h0 | h0
 ·exact Or.inl h0
 right
 have c0:=(World.cells?_some (g 0 h0).1).2.2 0 (by omega)
 rw [add_add] at c0;have k:=ft c0 (by omega)
 have r:=World.block_lt_of_cell? _ _ c0;refine ⟨a.block,a.off,by rw [←k],by simpa [Addr.add] using r,fun i j=>?_⟩
 have e:=(World.cells?_some (g i j).1).2.2;rw [k] at e;simp only [aK,Nat.add_assoc] at e;refine ⟨?_,?_,?_,(g i j).2⟩
 ·have:=e 0 (by omega);simpa using this
 ·have:=e 1 (by omega);simpa [Nat.add_assoc] using this
 have:=e 2 (by omega);simpa [Nat.add_assoc] using this
theorem Kr {α:Type} {a:Array α} (h:a.size=1):∃ x,a=#[x]:=by
 rcases a with ⟨l⟩
 match l,h with
 | [x],_=>exact ⟨x,rfl⟩
theorem sN {r:Reach} {b0:Nat} {v:Value} {d:DataW H} {p:List MemPlace} (g:Value.okWide Tryz.prog w r b0 24 v) (h:DataW.Trod enc Tryz.prog w 0 (fun _=>true) held 24 v d p) :
  ∃ (A0:Option Addr) (cap n:Nat) (D:Nat→Dm) (A:Nat→Option Addr) (C:Nat→Nat),v=.agg #[.slice A0 n cap]∧aW w A0 cap n D A C:=by
 obtain ⟨cs,rfl,a⟩:=okWide_struct Tryz.underlying24 g;obtain ⟨c0,rfl⟩:=Kr (a.trans Ja);obtain ⟨fuel,f⟩:=h;obtain ⟨-,n,i⟩:=lY Tryz.underlying24 (by kernel_rfl) f
 obtain ⟨j,b⟩:=i 0 _ c0 rfl rfl;obtain ⟨A0,cap,k,D,A,C,e,c⟩:=CK b
 simp at e
 exact ⟨A0,cap,k,D,A,C,by rw [e],c⟩
end
def kf (w:World) (b o:Nat) (l:List Nd):Prop:=b<w.heap.size∧∀ k,k<l.length→w.cell? ⟨b,o+k*5,none⟩=some (.int .i64 (l.getD k bO).op)∧w.cell? ⟨b,o+k*5+1,none⟩=some (.int .i64 (l.getD k bO).n)∧w.cell? ⟨b,o+k*5+2,none⟩=some (.string (l.getD k bO).name)∧w.cell? ⟨b,o+k*5+3,none⟩=some (.int .i64 (l.getD k bO).left)∧w.cell? ⟨b,o+k*5+4,none⟩=some (.int .i64 (l.getD k bO).right)
theorem kf.later {w w':World} {b o:Nat} {l:List Nd} (h:kf w b o l) (a:Bl w w'):kf w' b o l:=by
 refine ⟨zW h.1 a.size,fun k i=>?_⟩
 obtain ⟨c,d,e,f,g⟩:=h.2 k i;exact ⟨aC a h.1 c,aC a h.1 d,aC a h.1 e,aC a h.1 f,aC a h.1 g⟩
def gt (w:World) (A:Option Addr) (cap:Nat) (l:List Nd):Prop:=l.length≤cap∧cap≤9223372036854775807∧(l=[]∨∃ b o,A=some ⟨b,o,none⟩∧kf w b o l)
theorem gt.later {w w':World} {A:Option Addr} {cap:Nat} {l:List Nd} (h:gt w A cap l) (f:Bl w w'):gt w' A cap l:=by
 obtain ⟨d,c,a | ⟨b,o,a,e⟩⟩:=h
 ·exact ⟨d,c,Or.inl a⟩
 exact ⟨d,c,Or.inr ⟨b,o,a,e.later f⟩⟩
theorem gt.nil (w:World) (A:Option Addr) (cap:Nat) (h:cap≤9223372036854775807):gt w A cap []:=⟨zU,h,Or.inl rfl⟩
theorem ro (c:Int) (w:World):Rt 275 #[.int .u8 c] w (.bool (b9 c)):=by
 unfold b9
 by_cases a:48≤c
 ·go_enter Tryz.func275,Tryz.ntmps275
  go_wp2;go_ret;exact ⟨by simp <;> omega,by go_grown⟩
 go_enter Tryz.func275,Tryz.ntmps275
 go_wp2;go_ret;exact ⟨by simp <;> omega,by go_grown⟩
theorem islet_any (c:Int) (w:World):Rt 254 #[.int .u8 c] w (.bool (bG c)):=by
 unfold bG
 by_cases a:97≤c
 ·go_enter Tryz.func254,Tryz.ntmps254
  go_wp2;go_ret;exact ⟨by simp <;> omega,by go_grown⟩
 go_enter Tryz.func254,Tryz.ntmps254
 go_wp2;go_ret;exact ⟨by simp <;> omega,by go_grown⟩
theorem qL (op:Int) (w:World):Rt 239 #[.int .i64 op] w (.int .i64 (bindN op)):=by
 unfold bindN
 by_cases a:op=3
 ·subst a
  go_enter Tryz.func239,Tryz.ntmps239
  go_wp2;go_ret;exact ⟨by simp,by go_grown⟩
 by_cases b:op=4
 ·subst b
  go_enter Tryz.func239,Tryz.ntmps239
  go_wp2;go_ret;exact ⟨by simp,by go_grown⟩
 by_cases c:op=5
 ·subst c
  go_enter Tryz.func239,Tryz.ntmps239
  go_wp2;go_ret;exact ⟨by simp,by go_grown⟩
 by_cases d:op=6
 ·subst d
  go_enter Tryz.func239,Tryz.ntmps239
  go_wp2;go_ret;exact ⟨by simp,by go_grown⟩
 rw [if_neg (by omega),if_neg (by omega)]
 go_enter Tryz.func239,Tryz.ntmps239
 go_wp2;go_ret;exact ⟨rfl,by go_grown⟩
theorem Cq (op:Int) (w:World):Rt 216 #[.int .i64 op] w (.bool (decide (op≠1∧op≠2))):=by
 by_cases a:op=1
 ·subst a
  go_enter Tryz.func216,Tryz.ntmps216
  go_wp2;go_ret;exact ⟨by simp,by go_grown⟩
 by_cases b:op=2
 ·subst b
  go_enter Tryz.func216,Tryz.ntmps216
  go_wp2;go_ret;exact ⟨by simp,by go_grown⟩
 go_enter Tryz.func216,Tryz.ntmps216
 go_wp2;go_ret;exact ⟨by simp [a,b],by go_grown⟩
theorem da (s:ByteArray) (k:Nat) (h:k<s.size):((s[k]'h).toNat:Int)=byteN s k:=by
 unfold byteN;rw [List.getD,zX (by simpa using h)]
 rfl
theorem Cr {p:Int→Bool} {t:ByteArray} {f i:Nat} (h:p (byteN t i)=false):leadTo p t (f+1) i=i:=by simp [leadTo,h]
theorem uy {p:Int→Bool} {t:ByteArray} {f i:Nat} (h:p (byteN t i)=true):leadTo p t (f+1) i=leadTo p t f (i+1):=by simp [leadTo,h]
theorem ux (p:Int→Bool) (F:Nat) (q:∀ (args:Array Value) (w:World),(callFunc F args).run Tryz.prog w=.ok (.enter F args) w) (o:∀ (c:Int) (w:World),Rt F #[.int .u8 c] w (.bool (p c))) (t:ByteArray) (w:World) (y:t.size≤4611686018427387904):Rt 277 #[.string t,.func (.func F) #[] #[]] w (.int .i64 (leadN p t)):=by
 have s:=aa o;unfold leadN;clear o
 go_enter Tryz.func277,Tryz.ntmps277
 go_wp2_with fail
 go_loopg [8] t.size (fun g s8 wr => ∃ (k:Nat),k≤t.size∧g=t.size-k∧s8=.int .i64 k∧leadTo p t (t.size-k) k=leadTo p t t.size 0∧Bl w wr)
 case atStart=>exact ⟨0,zU,rfl,rfl,rfl,zS⟩
 case round =>
  obtain ⟨k,x,rfl,rfl,r,f⟩:=hrel;have j:=aa r;have l:=aa f;clear r f
  by_cases n:k<t.size
  ·have u:(k:Int)<(t.size:Int):=by omega
   have v:(t.size:Int)≤4611686018427387904:=by omega
   have d:Hid (t.size-k=(t.size-(k+1))+1):=by show _=_;omega
   have a:=s.out (byteN t k);have h:=da t k n;cases hb:p (byteN t k)
   ·rw [hb] at a
    have i:=aa hb;clear hb;generalize byteN t k=c at a h;go_wp2_with fail;refine (a _).mono ?_;rintro e w1 ⟨rfl,b⟩;go_wp2_with fail;go_ret;exact ⟨by rw [←j.out,d.out,Cr i.out];rfl,ae l.out b⟩
   rw [hb] at a;have i:=aa hb;clear hb;generalize byteN t k=c at a h;go_wp2_with fail;refine (a _).mono ?_;rintro e w1 ⟨rfl,b⟩;go_wp2_with fail
   go_roundg (t.size-(k+1))
   case measure=>omega
   case rel=>exact ⟨k+1,by omega,rfl,by go_num,by rw [←j.out,d.out,uy i.out],ae l.out b⟩
  have m:k=t.size:=by omega
  subst m;go_wp2_with fail;go_ret;exact ⟨by rw [←j.out,Nat.sub_self];rfl,l.out⟩
theorem Hi (args:Array Value) (w:World):(callFunc 275 args).run Tryz.prog w=.ok (.enter 275 args) w:=by simp [go_sem]
theorem Hj (args:Array Value) (w:World):(callFunc 254 args).run Tryz.prog w=.ok (.enter 254 args) w:=by simp [go_sem]
theorem Cs (t:ByteArray) (w:World) (a:t.size≤4611686018427387904):Rt 277 #[.string t,.func (.func 275) #[] #[]] w (.int .i64 (leadN b9 t)):=ux b9 275 Hi ro t w a
theorem Ct (t:ByteArray) (w:World) (a:t.size≤4611686018427387904):Rt 277 #[.string t,.func (.func 254) #[] #[]] w (.int .i64 (leadN bG t)):=ux bG 254 Hj islet_any t w a
theorem gj {k n:Int} (h:good k n=true) (w:World):Rt 176 #[.agg #[.int .i64 k,.int .i64 n]] w .nilIface:=by
 have a:=qR k n w;rw [if_pos h] at a;exact a
def nX (s:Nat) (ka na kb nb:Int) (w:World):Prop:=s+4≤w.heap.size∧KE ka na kb nb (s+1+1+1) w
 ∧ w.cell? ⟨s,0,none⟩=some (.int .i64 ka)∧w.cell? ⟨s,1,none⟩=some (.int .i64 na)∧w.cell? ⟨s+1,0,none⟩=some (.int .i64 kb)∧w.cell? ⟨s+1,1,none⟩=some (.int .i64 nb)
 ∧ w.cell? ⟨s+1+1,0,none⟩=some (.int .i64 0)∧w.cell? ⟨s+1+1,1,none⟩=some (.int .i64 0)∧w.frozen? ⟨s+1+1,0,none⟩=false∧w.frozen? ⟨s+1+1,1,none⟩=false
theorem nX.later {s:Nat} {ka na kb nb:Int} {w w':World} (h:nX s ka na kb nb w) (a:Bl w w'):nX s ka na kb nb w':=by
 obtain ⟨k,⟨t0,t1,t2,t3,t4⟩,b,c,d,e,f,g,i,j⟩:=h;have l:=a.size;refine ⟨by omega,⟨by omega,?_,?_,?_,?_⟩,?_,?_,?_,?_,?_,?_,?_,?_⟩
 ·rw [a.cell (p:=⟨s+1+1+1,0,none⟩) (by show s+1+1+1<_;omega)];exact t1
 ·rw [a.cell (p:=⟨s+1+1+1,1,none⟩) (by show s+1+1+1<_;omega)];exact t2
 ·rw [a.cell (p:=⟨s+1+1+1,2,none⟩) (by show s+1+1+1<_;omega)];exact t3
 ·rw [a.cell (p:=⟨s+1+1+1,3,none⟩) (by show s+1+1+1<_;omega)];exact t4
 ·rw [a.cell (p:=⟨s,0,none⟩) (by show s<_;omega)];exact b
 ·rw [a.cell (p:=⟨s,1,none⟩) (by show s<_;omega)];exact c
 ·rw [a.cell (p:=⟨s+1,0,none⟩) (by show s+1<_;omega)];exact d
 ·rw [a.cell (p:=⟨s+1,1,none⟩) (by show s+1<_;omega)];exact e
 ·rw [a.cell (p:=⟨s+1+1,0,none⟩) (by show s+1+1<_;omega)];exact f
 ·rw [a.cell (p:=⟨s+1+1,1,none⟩) (by show s+1+1<_;omega)];exact g
 ·rw [a.frozen (p:=⟨s+1+1,0,none⟩) (by show s+1+1<_;omega)];exact i
 rw [a.frozen (p:=⟨s+1+1,1,none⟩) (by show s+1+1<_;omega)];exact j
theorem nX.first (ka na kb nb:Int) (w:World):nX w.heap.size ka na kb nb ((((w.alloc (Obj.cells #[.int .i64 ka,.int .i64 na] 52)).alloc (Obj.cells #[.int .i64 kb,.int .i64 nb] 52)).alloc (Obj.cells #[.int .i64 0,.int .i64 0] 52)).alloc (Obj.cells #[.int .i64 ka,.int .i64 na,.int .i64 kb,.int .i64 nb] 52)):=by
 refine ⟨by simp,⟨by simp,?_,?_,?_,?_⟩,?_,?_,?_,?_,?_,?_,?_,?_⟩ <;> simp [go_sem]
theorem nX.alloc {s:Nat} {ka na kb nb:Int} {w:World} (h:nX s ka na kb nb w) (o:Obj):nX s ka na kb nb (w.alloc o):=h.later ((zS).alloc (zT) _)
theorem xF (z A:Value) (ka na kb nb:Int) (w:World) (x:good ka na=true) (g:good kb nb=true) (h:((fun k:Int=>k == 2) ka || (fun k:Int=>k == 2) kb)=true) :
  Rt 180 #[.agg #[.int .i64 ka,.int .i64 na],.agg #[.int .i64 kb,.int .i64 nb],z,A] w (.tuple #[.agg #[.int .i64 2,.int .i64 0],.nilIface]):=by
 have s:=gj x;have t:=gj g;clear g x;have u:=nX.first ka na kb nb w
 go_enter Tryz.func180,Tryz.ntmps180
 go_wp2_with fail;refine wp_loop_rounds 3 ?_;rw [rounds_succ];go_wp2_with fail;refine (s _).mono ?_;rintro e w1 ⟨rfl,b⟩;have q:=(u.alloc _).later b;have B:Bl w w1:=Below.trans (by go_grown) (b.mono (by simp;omega))
 clear u b;obtain ⟨p,⟨t0,t1,t2,t3,t4⟩,i,j,l,m,c,d,n,o⟩:=id q;go_wp2_with fail;rw [rounds_succ];go_wp2_with fail;refine (t _).mono ?_;rintro e w2 ⟨rfl,b⟩;have r:=(q.alloc _).later b;have f:Bl w w2:=Below.trans (by go_grown) (b.mono (by simp;omega))
 clear q b p t0 t1 t2 t3 t4 i j l m c d n o B;obtain ⟨p,⟨t0,t1,t2,t3,t4⟩,i,j,l,m,c,d,n,o⟩:=id r;go_wp2_with fail;rw [rounds_succ];go_wp2_with fail;have a:=e8 221 (fun k=>k == 2) mj kz ka na kb nb _ w2 t0 t1 t2 t3 t4
 rw [h] at a;refine a.mono ?_;rintro e w3 ⟨rfl,b⟩;have y:=r.later b;have C:Bl w w3:=Below.trans f (b.mono (by omega))
 clear r b p t0 t1 t2 t3 t4 i j l m c d n o f a;obtain ⟨p,D,i,j,l,m,c,d,n,o⟩:=id y;clear h;go_wp2_with fail;refine bodyPost_ret (v:=.tuple #[.agg #[.int .i64 2,.int .i64 0],.nilIface]) (by simp [results,Tryz.results180,go_sem,c,d]) rfl ⟨rfl,?_⟩
 go_grown
theorem xE (y:Nat) (p:Int→Int→Bool) (L:dC y) (F:tx y p) (I:Value) (ka na kb nb:Int) (w:World) (E:good ka na=true) (r:good kb nb=true) (s:((fun k:Int=>k == 2) ka || (fun k:Int=>k == 2) kb)=false) (B:p ka kb=true) :
  Rt 180 #[.agg #[.int .i64 ka,.int .i64 na],.agg #[.int .i64 kb,.int .i64 nb],.func (.func y) #[] #[],I] w (.tuple #[.agg #[.int .i64 0,.int .i64 0],.nilIface]):=by
 have H:=aa F;clear F;unfold dC at L;have z:=gj E;have A:=gj r;clear r E;have D:=nX.first ka na kb nb w
 go_enter Tryz.func180,Tryz.ntmps180
 go_wp2_with fail;refine wp_loop_rounds 3 ?_;rw [rounds_succ];go_wp2_with fail;refine (z _).mono ?_;rintro e w1 ⟨rfl,a⟩;have t:=(D.alloc _).later a;have J:Bl w w1:=Below.trans (by go_grown) (a.mono (by simp;omega))
 clear D a;obtain ⟨n,⟨t0,t1,t2,t3,t4⟩,g,h,i,j,c,d,l,m⟩:=id t;go_wp2_with fail;rw [rounds_succ];go_wp2_with fail;refine (A _).mono ?_;rintro e w2 ⟨rfl,a⟩;have u:=(t.alloc _).later a;have o:Bl w w2:=Below.trans (by go_grown) (a.mono (by simp;omega))
 clear t a n t0 t1 t2 t3 t4 g h i j c d l m J;obtain ⟨n,⟨t0,t1,t2,t3,t4⟩,g,h,i,j,c,d,l,m⟩:=id u;go_wp2_with fail;rw [rounds_succ];go_wp2_with fail;have b:=e8 221 (fun k=>k == 2) mj kz ka na kb nb _ w2 t0 t1 t2 t3 t4
 rw [s] at b;refine b.mono ?_;rintro e w3 ⟨rfl,a⟩;have x:=u.later a;have q:Bl w w3:=Below.trans o (a.mono (by omega))
 clear u a n t0 t1 t2 t3 t4 g h i j c d l m o b;obtain ⟨n,C,g,h,i,j,c,d,l,m⟩:=id x;clear s;go_wp2_with fail;have f:=H.out ka na kb nb _ w3 C;rw [B] at f;refine f.mono ?_;rintro e w4 ⟨rfl,a⟩;have G:=x.later a;have K:Bl w w4:=Below.trans q (a.mono (by omega))
 clear x a n C g h i j c d l m q f;obtain ⟨n,C,g,h,i,j,c,d,l,m⟩:=id G;go_wp2_with fail;refine bodyPost_ret (v:=.tuple #[.agg #[.int .i64 0,.int .i64 0],.nilIface]) (by simp [results,Tryz.results180,go_sem,c,d]) rfl ⟨rfl,?_⟩
 go_grown
theorem Co (C D:Nat) (p:Int→Int→Bool) (R:dC C) (L:tx C p) (G:dC D) (ka na kb nb:Int) (w:World) (J:good ka na=true) (t:good kb nb=true) (r:Int×Int) (K:nZ D na nb r) (u:((fun k:Int=>k == 2) ka || (fun k:Int=>k == 2) kb)=false) (H:p ka kb=false) :
  Rt 180 #[.agg #[.int .i64 ka,.int .i64 na],.agg #[.int .i64 kb,.int .i64 nb],.func (.func C) #[] #[],.func (.func D) #[] #[]] w (.tuple #[.agg #[.int .i64 r.1,.int .i64 r.2],.nilIface]):=by
 have O:=aa L;have N:=aa K;clear L K;unfold dC at R G;have E:=gj J;have F:=gj t;clear t J;have I:=nX.first ka na kb nb w
 go_enter Tryz.func180,Tryz.ntmps180
 go_wp2_with fail;refine wp_loop_rounds 3 ?_;rw [rounds_succ];go_wp2_with fail;refine (E _).mono ?_;rintro e w1 ⟨rfl,a⟩;have y:=(I.alloc _).later a;have P:Bl w w1:=Below.trans (by go_grown) (a.mono (by simp;omega))
 clear I a;obtain ⟨m,⟨t0,t1,t2,t3,t4⟩,f,g,h,i,c,d,j,l⟩:=id y;go_wp2_with fail;rw [rounds_succ];go_wp2_with fail;refine (F _).mono ?_;rintro e w2 ⟨rfl,a⟩;have z:=(y.alloc _).later a;have o:Bl w w2:=Below.trans (by go_grown) (a.mono (by simp;omega))
 clear y a m t0 t1 t2 t3 t4 f g h i c d j l P;obtain ⟨m,⟨t0,t1,t2,t3,t4⟩,f,g,h,i,c,d,j,l⟩:=id z;go_wp2_with fail;rw [rounds_succ];go_wp2_with fail;have b:=e8 221 (fun k=>k == 2) mj kz ka na kb nb _ w2 t0 t1 t2 t3 t4
 rw [u] at b;refine b.mono ?_;rintro e w3 ⟨rfl,a⟩;have A:=z.later a;have q:Bl w w3:=Below.trans o (a.mono (by omega))
 clear z a m t0 t1 t2 t3 t4 f g h i c d j l o b;obtain ⟨m,x,f,g,h,i,c,d,j,l⟩:=id A;clear u;go_wp2_with fail;have n:=O.out ka na kb nb _ w3 x;rw [H] at n;refine n.mono ?_;rintro e w4 ⟨rfl,a⟩;have B:=A.later a;have s:Bl w w4:=Below.trans q (a.mono (by omega))
 clear A a m x f g h i c d j l q n;obtain ⟨m,x,f,g,h,i,c,d,j,l⟩:=id B;go_wp2_with fail;refine (N.out _).mono ?_;rintro e w5 ⟨rfl,a⟩;have M:=B.later a;have Q:Bl w w5:=Below.trans s (a.mono (by omega))
 clear B a m x f g h i c d j l s;obtain ⟨m,x,f,g,h,i,c,d,j,l⟩:=id M;go_wp2_with fail;refine bodyPost_ret (v:=.tuple #[.agg #[.int .i64 r.1,.int .i64 r.2],.nilIface]) (by simp [results,Tryz.results180,go_sem,c,d]) rfl ⟨rfl,?_⟩
 go_grown
end Go.Proofs.YtohgnbgamfepoaaGreatDoor
