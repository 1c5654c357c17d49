/- slices.IndexFunc and s -/
import Derived.OwnWalk
import Derived.Lib.ItoaMem
import Derived.Lib.AtoiTie
import Derived.Lib.Strings
import Derived.WalkSpells
import Derived.WalkLawsBesides
import Derived.Test.YthlhjjabkgpenaaGreatDoorJTAA
namespace Go.Proofs.YthlhjjabkgpenaaGreatDoor
open ChangeShapes WideShapes ChangeAt RowKit Lib
set_option maxRecDepth 99999
set_option maxHeartbeats 0
def xZ (w:World) (b o:Nat) (d:Dm) (A:Option Addr) (c:Nat):Prop:=w.cell? ⟨b,o,none⟩=some (.string d.name)∧w.cell? ⟨b,o+1,none⟩=some (.int .i64 d.solve)∧w.cell? ⟨b,o+2,none⟩=some (.slice A d.n c)∧dP w A c d.n d.mem
def eR (w:World) (b o n:Nat) (D:Nat→Dm) (A:Nat→Option Addr) (C:Nat→Nat):Prop:=b<w.heap.size∧∀ i,i<n→xZ w b (o+i*3) (D i) (A i) (C i)
theorem xZ.later {w w':World} {b o:Nat} {d:Dm} {A:Option Addr} {c:Nat} (h:xZ w b o d A c) (e:b<w.heap.size) (a:Bl w w'):xZ w' b o d A c :=
 ⟨aL a e h.1,aL a e h.2.1,aL a e h.2.2.1,h.2.2.2.later a⟩
theorem eR.later {w w':World} {b o n:Nat} {D:Nat→Dm} {A:Nat→Option Addr} {C:Nat→Nat} (h:eR w b o n D A C) (a:Bl w w'):eR w' b o n D A C :=
 ⟨zW h.1 a.size,fun i c=>(h.2 i c).later h.1 a⟩
theorem eR.less {w:World} {b o n m:Nat} {D:Nat→Dm} {A:Nat→Option Addr} {C:Nat→Nat} (h:eR w b o n D A C) (c:m≤n):eR w b o m D A C:=⟨h.1,fun i a=>h.2 i (by omega)⟩
def IQ (q:Nat) (w:World) (n:Nat) (D:Nat→Dm) (A:Nat→Option Addr) (C:Nat→Nat) (p:Nat→Bool):Prop := ∀ (i:Nat) (w':World),i<n→Bl w w'→Calls Tryz.prog 76 #[cA (D i) (A i) (C i),.pointer (some ⟨q,0,none⟩)] w' fun e w''=>e=.returned (.bool (p i))∧Bl w' w''
theorem vT (q b o n cap:Nat) (D:Nat→Dm) (A:Nat→Option Addr) (C:Nat→Nat) (p:Nat→Bool) (w:World) (G:n≤4) (s:eR w b o n D A C) (t:IQ q w n D A C p) :
  Rt 110 #[.slice (some ⟨b,o,none⟩) n cap,.func (.func 76) #[] #[.pointer (some ⟨q,0,none⟩)]] w (.int .i64 (findFrom p n 0)):=by
 have u:=aa s;have v:=aa t;clear s t
 go_enter Tryz.func110,Tryz.ntmps110
 go_wp2_with fail
 go_loopg [8] n (fun g s8 wr => ∃ (k:Nat),k≤n∧g=n-k∧s8=.int .i64 k∧findFrom p (n-k) k=findFrom p n 0∧Bl w wr)
 case atStart=>exact ⟨0,zU,rfl,rfl,rfl,zS⟩
 case round =>
  obtain ⟨k,F,rfl,rfl,j,a⟩:=hrel
  by_cases f:k<n
  ·obtain ⟨z,B,E,-⟩:=(u.out.later a).2 k f
   have x:(k:Int)<(n:Int):=by omega
   have m:=aa j;have r:=aa a;have h:n-k=(n-(k+1))+1:=by omega
   have c:=v.out k wr f a;unfold cA at c;have y:(n:Int)≤4:=by omega
   clear j a;cases hb:p k
   ·rw [hb] at c
    have i:=aa hb;clear hb;go_wp2_with fail;refine c.mono ?_;rintro e w1 ⟨rfl,d⟩;go_wp2_with fail
    go_roundg (n-(k+1))
    case measure=>omega
    case rel=>exact ⟨k+1,by omega,rfl,by go_num,by rw [←m.out,h,aU _ i.out],ae r.out d⟩
   rw [hb] at c;have i:=aa hb;clear hb;go_wp2_with fail;refine c.mono ?_;rintro e w1 ⟨rfl,d⟩;go_wp2_with fail;go_ret;exact ⟨by rw [←m.out,h,aW _ i.out];rfl,ae r.out d⟩
  have l:k=n:=by omega
  subst l;go_wp2_with fail;go_ret;exact ⟨by rw [←j,Nat.sub_self];rfl,a⟩
theorem px (q b o n cap:Nat) (D:Nat→Dm) (A:Nat→Option Addr) (C:Nat→Nat) (p:Nat→Bool) (w:World) (f:n≤4) (c:eR w b o n D A C) (d:IQ q w n D A C p) :
  Rt 75 #[.slice (some ⟨b,o,none⟩) n cap,.func (.func 76) #[] #[.pointer (some ⟨q,0,none⟩)]] w (.bool (decide (0≤findFrom p n 0))):=by
 have h:=vT q b o n cap D A C p w f c d;clear c d
 go_enter Tryz.func75,Tryz.ntmps75
 go_wp2_with fail;refine h.mono ?_;rintro e w1 ⟨rfl,a⟩;go_wp2_with fail;go_ret;exact ⟨rfl,a⟩
theorem CQ (d:Dm) (A:Option Addr) (c:Nat) (s:ByteArray) (q:Nat) (w:World) (a:q<w.heap.size) (h:w.cell? ⟨q,0,none⟩=some (.string s)):Rt 76 #[cA d A c,.pointer (some ⟨q,0,none⟩)] w (.bool (same d.name s)):=by
 unfold cA
 go_enter Tryz.func76,Tryz.ntmps76
 go_wp2_with fail;go_ret;exact ⟨by simp [same],by go_grown⟩
theorem km {D:Nat→Dm} {k:Nat} (h:∀ j,j<k→(D j).n≤12) (a:k≤4):prodN D k≤20736:=by
 refine zV (uu h) ?_;exact zV (Nat.pow_le_pow_right (by omega) a) (by decide)
theorem zF (b o n cap:Nat) (D:Nat→Dm) (A:Nat→Option Addr) (C:Nat→Nat) (w:World) (E:n≤4) (i:∀ j,j<n→(D j).n≤12) (h:eR w b o n D A C):Rt 77 #[.agg #[.slice (some ⟨b,o,none⟩) n cap]] w (.int .i64 (prodN D n)):=by
 have l:=aa h;have m:=aa i;clear h i
 go_enter Tryz.func77,Tryz.ntmps77
 go_wp2_with fail
 go_loopg [3,9] n (fun g s3 s9 wr => ∃ (k:Nat),k≤n∧g=n-k∧s9=.int .i64 k∧s3=.int .i64 (prodN D k)∧Bl w wr)
 case atStart=>exact ⟨0,zU,rfl,rfl,rfl,by go_grown⟩
 case round =>
  obtain ⟨k,B,rfl,rfl,rfl,a⟩:=hrel
  by_cases e:k<n
  ·obtain ⟨v,x,y,-⟩:=(l.out.later a).2 k e
   have r:(k:Int)<(n:Int):=by omega
   have u:(n:Int)≤4:=by omega
   have f:prodN D (k+1)≤20736:=km (fun j z=>m.out j (by omega)) (by omega)
   have c:(prodN D (k+1):Int)=(prodN D k:Int)*((D k).n:Int):=by rw [prodN];exact Int.natCast_mul _ _
   have s:0≤(prodN D k:Int)*((D k).n:Int):=by omega
   have t:(prodN D k:Int)*((D k).n:Int)≤20736:=by omega
   have q:=aa a;have p:=aa c;clear a f c;go_wp2_with fail
   go_roundg (n-(k+1))
   case measure=>omega
   case rel=>exact ⟨k+1,by omega,rfl,by go_num,by rw [p.out],ae q.out (by go_grown)⟩
  have d:k=n:=by omega
  subst d;go_wp2_with fail;go_ret;exact ⟨rfl,a⟩
def bd (w:World) (A0:Option Addr) (cap n:Nat) (D:Nat→Dm) (A:Nat→Option Addr) (C:Nat→Nat):Prop:=n≤cap∧(n=0∨∃ b o,A0=some ⟨b,o,none⟩∧eR w b o n D A C)
theorem bd.later {w w':World} {A0:Option Addr} {cap n:Nat} {D:Nat→Dm} {A:Nat→Option Addr} {C:Nat→Nat} (h:bd w A0 cap n D A C) (e:Bl w w'):bd w' A0 cap n D A C:=by
 obtain ⟨c,a | ⟨b,o,a,d⟩⟩:=h
 ·exact ⟨c,Or.inl a⟩
 exact ⟨c,Or.inr ⟨b,o,a,d.later e⟩⟩
theorem K6 {D:Nat→Dm} {n:Nat} (h:4<n):ah D n=(-1,-1,4):=by unfold ah;rw [if_pos h]
theorem K7 {D:Nat→Dm} {n:Nat} (h:n=0):ah D n=(-1,-1,5):=by unfold ah;rw [if_neg (by omega),if_pos h]
theorem Kx {D:Nat→Dm} {n:Nat} (h : ¬ 4<n) (a : ¬ n=0) (b:(dI D n 0).2.2≠0):ah D n=dI D n 0:=by unfold ah;rw [if_neg h,if_neg a,if_pos b]
theorem K8 {D:Nat→Dm} {n:Nat} (h : ¬ 4<n) (a : ¬ n=0) (b:(dI D n 0).2.2=0) (c:3000<prodN D n):ah D n=(-1,-1,4):=by unfold ah;rw [if_neg h,if_neg a,if_neg (by simpa using b),if_pos c]
theorem K9 {D:Nat→Dm} {n:Nat} (h : ¬ 4<n) (a : ¬ n=0) (b:(dI D n 0).2.2=0) (c : ¬ 3000<prodN D n):ah D n=(-1,-1,0):=by unfold ah;rw [if_neg h,if_neg a,if_neg (by simpa using b),if_neg c]
theorem Kn {D:Nat→Dm} {i:Nat} (h:(au (D i)).2≠0):fZ D i=au (D i):=by unfold fZ;rw [if_pos h]
theorem Ko {D:Nat→Dm} {i:Nat} (h:(au (D i)).2=0) (a:fx D i=true):fZ D i=(-1,7):=by unfold fZ;rw [if_neg (by simpa using h),if_pos a]
theorem Kp {D:Nat→Dm} {i:Nat} (h:(au (D i)).2=0) (a:fx D i=false):fZ D i=(-1,0):=by unfold fZ;rw [if_neg (by simpa using h),if_neg (by simp [a])]
def aD (w:World) (A0:Option Addr) (n cap T:Nat):World:=w.alloc (.cells #[.slice A0 n cap] T)
theorem aR (w:World) (A0:Option Addr) (n cap T:Nat):(aD w A0 n cap T).cell? ⟨w.heap.size,0,none⟩=some (.slice A0 n cap):=by unfold aD;simp
theorem aF (w:World) (A0:Option Addr) (n cap T:Nat):(aD w A0 n cap T).heap.size=w.heap.size+1:=by unfold aD;simp
theorem aA (w:World) (A0:Option Addr) (n cap T:Nat):Bl w (aD w A0 n cap T):=by unfold aD;go_grown
theorem mx (A0:Option Addr) (cap n:Nat) (D:Nat→Dm) (A:Nat→Option Addr) (C:Nat→Nat) (w:World) (V:bd w A0 cap n D A C):Rt 43 #[.agg #[.slice A0 n cap]] w (.tuple #[.int .i64 (ah D n).1,.int .i64 (ah D n).2.1,errV (ah D n).2.2]):=by
 by_cases E:4<n
 ·have Lu:4<(n:Int):=by omega
  have i:Hid (ah D n=(-1,-1,4)):=K6 E;clear E V
  go_enter Tryz.func43,Tryz.ntmps43
  go_wp2_with fail;refine bodyPost_ret (v:=.tuple #[.int .i64 (-1),.int .i64 (-1),.iface 68 (.int .i64 4)]) (by simp [results,Tryz.results43,go_sem]) rfl ⟨by rw [i.out];rfl,?_⟩
  go_grown
 have Lu:(n:Int)≤4:=by omega
 by_cases B:n=0
 ·have i:Hid (ah D n=(-1,-1,5)):=K7 B
  have hz:((n:Int) == 0)=true:=by simp [B]
  clear B V E
  go_enter Tryz.func43,Tryz.ntmps43
  go_wp2_with fail;refine bodyPost_ret (v:=.tuple #[.int .i64 (-1),.int .i64 (-1),.iface 68 (.int .i64 5)]) (by simp [results,Tryz.results43,go_sem]) rfl ⟨by rw [i.out];rfl,?_⟩
  go_grown
 have hz:((n:Int) == 0)=false:=by simp;omega
 obtain ⟨hcap,h0 | ⟨b,o,rfl,K⟩⟩:=V
 ·omega
 have Y:(n:Int)≤(cap:Int):=by omega
 have u:=aA w (some ⟨b,o,none⟩) n cap 24;have hS:=aF w (some ⟨b,o,none⟩) n cap 24;have U:=aR w (some ⟨b,o,none⟩) n cap 24;obtain ⟨W,X⟩:∃ W,W=aD w (some ⟨b,o,none⟩) n cap 24:=⟨_,rfl⟩;rw [←X] at u hS U;have T:=aa (K.later u);have N:w.heap.size<W.heap.size:=by omega
 clear K;have HW:=aa X;have HA:=aa U;have t:=aa u;clear X U u hS
 go_enter Tryz.func43,Tryz.ntmps43
 go_wp2_with fail
 go_loopg [22] n (fun g s22 wr => ∃ (k:Nat),k≤n∧g=n-k∧s22=.int .i64 k∧dI D (n-k) k=dI D n 0∧Bl W wr)
 case atStart=>exact ⟨0,zU,rfl,rfl,rfl,by rw [HW.out];exact zS⟩
 case round =>
  obtain ⟨k,hk,rfl,rfl,M,l⟩:=hrel;have h:=aa l;have R:=aa M;have c0:wr.cell? ⟨w.heap.size,0,none⟩=some (.slice (some ⟨b,o,none⟩) n cap):=aL l N HA.out;have m:=T.out.later l;have O:w.heap.size<wr.heap.size:=zW N l.size;clear M l
  by_cases Lt:k<n
  ·obtain ⟨h0,h1,h2,h3⟩:=m.2 k Lt
   have hki:(k:Int)<(n:Int):=by omega
   have F:n-k=(n-(k+1))+1:=by omega
   have I:=aM wr (D k) (A k) (C k) 37;have d:=jY (D k) (A k) (C k) (aI wr (D k) (A k) (C k) 37) (h3.later I);unfold cA at d;have H:=aa m;clear h3 m I
   by_cases x:(au (D k)).2=0
   ·obtain ⟨e1,hd1,hd2,-⟩:=aG x
    rw [x,e1,errV_zero] at d;have G:=aa x;clear x e1;go_wp2_with fail;refine d.mono ?_;rintro e w1 ⟨rfl,a⟩;have f:Bl wr w1:=ae (aM wr (D k) (A k) (C k) 37) a;have Q:wr.heap.size<w1.heap.size:=by
     have:=a.size;rw [aZ] at this
     omega
    have q0:w1.cell? ⟨wr.heap.size,0,none⟩=some (.string (D k).name):=(a.cell (p:=⟨wr.heap.size,0,none⟩) (by show wr.heap.size<_;rw [aZ];omega)).trans (dD wr (D k) (A k) (C k) 37).1
    have c1:w1.cell? ⟨w.heap.size,0,none⟩=some (.slice (some ⟨b,o,none⟩) n cap):=aL f O c0;have J:=H.out.later f;have q:=px wr.heap.size b o k cap D A C (fun j=>same (D j).name (D k).name) w1 (by omega) (J.less (by omega)) (fun j w' _ P=>CQ (D j) (A j) (C j) (D k).name wr.heap.size w' (zW Q P.size) (aL P Q q0))
    change Calls _ _ _ _ (fun e w'=>e=.returned (.bool (fx D k))∧_) at q
    clear a d J q0 c0 h0 h1 h2 H;cases hc:fx D k
    ·rw [hc] at q
     have z:Hid (fZ D k=(-1,0)):=Kp G.out hc;clear hc;go_wp2_with fail;refine q.mono ?_;rintro e w2 ⟨rfl,c⟩;go_wp2_with fail
     go_roundg (n-(k+1))
     case measure=>omega
     case rel=>exact ⟨k+1,by omega,rfl,by go_num,by rw [←R.out,F,oU _ (by rw [z.out])],ae (ae h.out f) c⟩
    rw [hc] at q;have z:Hid (fZ D k=(-1,7)):=Ko G.out hc;clear hc;go_wp2_with fail;refine q.mono ?_;rintro e w2 ⟨rfl,c⟩;go_wp2_with fail;have s:dI D n 0=((k:Int),-1,7):=by rw [←R.out,F,g8 _ (by rw [z.out];decide),z.out]
    have i:ah D n=((k:Int),-1,7):=by rw [Kx (by omega) (by omega) (by rw [s];show (7:Int)≠0;decide),s]
    refine bodyPost_ret (v:=.tuple #[.int .i64 k,.int .i64 (-1),.iface 68 (.int .i64 7)]) (by simp [results,Tryz.results43,go_sem]) rfl ⟨by rw [i];rfl,?_⟩
    exact ae t.out (ae (ae h.out f) c)
   rw [aj x] at d;have z:Hid (fZ D k=au (D k)):=Kn x;have G:=aa x;clear x;go_wp2_with fail;refine d.mono ?_;rintro e w1 ⟨rfl,a⟩;have f:Bl wr w1:=ae (aM wr (D k) (A k) (C k) 37) a;clear a d;go_wp2_with fail;have s:dI D n 0=((k:Int),(au (D k)).1,(au (D k)).2):=by rw [←R.out,F,g8 _ (by rw [z.out];exact G.out),z.out]
   have i:ah D n=((k:Int),(au (D k)).1,(au (D k)).2):=by rw [Kx (by omega) (by omega) (by rw [s];exact G.out),s]
   refine bodyPost_ret (v:=.tuple #[.int .i64 k,.int .i64 (au (D k)).1,.iface 68 (.int .i64 (au (D k)).2)]) (by simp [results,Tryz.results43,go_sem]) rfl ⟨by rw [i,aj G.out],?_⟩
   exact ae t.out (ae h.out f)
  have Z:k=n:=by omega
  subst Z;have r:(dI D k 0).2.2=0:=by rw [←R.out,Nat.sub_self];rfl
  have y:=(jb k 0 r).2;have L:=zF b o k cap D A C wr (by omega) (fun j hj=>(aG (kh (y j (zU) (by omega)))).2.2.1) m
  clear y m
  by_cases S:3000<prodN D k
  ·have Lv:3000<(prodN D k:Int):=by omega
   have i:Hid (ah D k=(-1,-1,4)):=K8 (by omega) (by omega) r S
   clear r S;go_wp2_with fail;refine L.mono ?_;rintro e w2 ⟨rfl,c⟩;go_wp2_with fail;refine bodyPost_ret (v:=.tuple #[.int .i64 (-1),.int .i64 (-1),.iface 68 (.int .i64 4)]) (by simp [results,Tryz.results43,go_sem]) rfl ⟨by rw [i.out];rfl,?_⟩
   exact ae t.out (ae h.out c)
  have Lv:(prodN D k:Int)≤3000:=by omega
  have i:Hid (ah D k=(-1,-1,0)):=K9 (by omega) (by omega) r S
  clear r S;go_wp2_with fail;refine L.mono ?_;rintro e w2 ⟨rfl,c⟩;go_wp2_with fail;refine bodyPost_ret (v:=.tuple #[.int .i64 (-1),.int .i64 (-1),.nilIface]) (by simp [results,Tryz.results43,go_sem]) rfl ⟨by rw [i.out];rfl,?_⟩
  exact ae t.out (ae h.out c)
def Tr (M:Nat→Mem) (n:Nat):Prop := ∀ k,k<n→-1≤(M k).parent∧(M k).parent<(k:Int)
def Sg (M:Nat→Mem) (n:Nat):Prop := ∀ k,k<n→-1≤(M k).sign∧(M k).sign≤1
theorem lV {M:Nat→Mem} {i:Nat} (h:aS M i=0):(-1≤(M i).parent∧(M i).parent<(i:Int))∧(-1≤(M i).sign∧(M i).sign≤1)∧(0≤(M i).parent→(M (M i).parent.toNat).formula.size=0):=by
 unfold aS at h
 split at h
 ·simp at h
 split at h
 ·simp at h
 split at h
 ·simp at h
 split at h
 ·simp at h
 split at h
 ·simp at h
 rename_i h1 h2 h3 h4 h5
 refine ⟨by omega,by omega,fun a=>?_⟩
 exact Decidable.byContradiction fun b=>h4 ⟨a,b⟩
theorem Tr.of {d:Dm} (h:(au d).2=0):Tr d.mem d.n:=fun k a=>(lV ((aG h).2.2.2 k a)).1
theorem Sg.of {d:Dm} (h:(au d).2=0):Sg d.mem d.n:=fun k a=>(lV ((aG h).2.2.2 k a)).2.1
def selTo (p:Nat→Bool):Nat→List Int
 | 0=>[]
 | k+1=>selTo p k ++ (if p k=true then [(k:Int)] else [])
theorem lH {p:Nat→Bool} {k:Nat} (h:p k=true):selTo p (k+1)=selTo p k ++ [(k:Int)]:=by simp [selTo,h]
theorem iH {p:Nat→Bool} {k:Nat} (h:p k=false):selTo p (k+1)=selTo p k:=by simp [selTo,h]
theorem cS (p:Nat→Bool) (k:Nat):(selTo p k).length≤k:=by
 induction k with
 | zero=>exact zT
 | succ k ih=>rw [selTo,List.length_append];split <;> simp <;> omega
theorem dE {p:Nat→Bool} {k:Nat}:∀ j∈selTo p k,∃ m:Nat,j=m∧m<k∧p m=true:=by
 induction k with
 | zero=>intro j a;cases a
 | succ k ih =>
  intro j a;rw [selTo,List.mem_append] at a
  rcases a with a | a
  ·obtain ⟨m,b,d,c⟩:=ih j a;exact ⟨m,b,by omega,c⟩
  split at a
  ·rename_i hp;simp at a;exact ⟨k,a,by omega,hp⟩
  cases a
theorem xx {p:Nat→Bool} {k:Nat} (h:∀ j,j<k→p j=false):selTo p k=[]:=by
 induction k with
 | zero=>rfl
 | succ k ih=>rw [iH (h k (by omega)),ih fun j a=>h j (by omega)]
def gW (M:Nat→Mem) (i:Int) (k:Nat):Bool:=(M k).parent == i
def leafB (M:Nat→Mem) (n k:Nat):Bool:=decide ((M k).formula.size=0) && !decide (0≤findFrom (gW M k) n 0)
def FJ (L:List Int) (i:Int):Bool:=decide (i∈L)
def bj (M:Nat→Mem) (n:Nat) (i:Int):List Int:=selTo (gW M i) n
theorem F0 (L:List Int) (i:Int):decide (0≤findFrom (fun j=>L.getD j 0 == i) L.length 0)=FJ L i:=by
 unfold FJ;rw [decide_eq_decide]
 rcases findFrom_cases (fun j=>L.getD j 0 == i) L.length 0 with ⟨a,d⟩ | ⟨k,a,_,g,b,_⟩
 ·rw [a]
  constructor
  ·intro h;omega
  intro h;obtain ⟨j,f,e⟩:=List.getElem_of_mem h;have:=d j (zU) (by omega)
  simp [List.getD,zX f,e] at this
 rw [a]
 constructor
 ·intro _
  have c:k<L.length:=by omega
  simp [List.getD,zX c] at b
  rw [←b];exact List.getElem_mem c
 intro _;omega
def oJ (n:Nat) (L:List Int):Int:=if 0≤findFrom (fun j=>decide (L.getD j 0<0) || decide ((n:Int)≤L.getD j 0)) L.length 0 then 1 else 0
def treeErr (d:Dm) (L:List Int):Int:=if (au d).2≠0 then (au d).2 else oJ d.n L
theorem uX {d:Dm} {L:List Int} (h:(au d).2≠0):treeErr d L=(au d).2:=by unfold treeErr;rw [if_pos h]
theorem gt {d:Dm} {i:Int} (h:(au d).2=0):treeErr d [i]=if i<0∨(d.n:Int)≤i then 1 else 0:=by
 unfold treeErr oJ;rw [if_neg (by simpa using h)]
 by_cases a:i<0∨(d.n:Int)≤i
 ·rw [if_pos a];simp [findFrom,a]
 rw [if_neg a];simp [findFrom,a]
theorem we:dG 246:=fun args w=>by simp [callFunc,Tryz.func246];rfl
theorem tB (m:Mem) (i:Int) (q:Nat) (w:World) (a:q<w.heap.size) (h:w.cell? ⟨q,0,none⟩=some (.int .i64 i)):Rt 246 #[pC m,.pointer (some ⟨q,0,none⟩)] w (.bool (m.parent == i)):=by
 unfold pC
 go_enter Tryz.func246,Tryz.ntmps246
 go_wp2_with fail;go_ret;exact ⟨by simp,by go_grown⟩
def gD (w:World) (i:Int) (T:Nat):World:=w.alloc (.cells #[.int .i64 i] T)
theorem lA (w:World) (i:Int) (T:Nat):(gD w i T).cell? ⟨w.heap.size,0,none⟩=some (.int .i64 i):=by unfold gD;simp
theorem gf (w:World) (i:Int) (T:Nat):(gD w i T).heap.size=w.heap.size+1:=by unfold gD;simp
theorem dO (w:World) (i:Int) (T:Nat):Bl w (gD w i T):=by unfold gD;go_grown
theorem nP {M:Nat→Mem} {n k:Nat} (h:(M k).formula.size≠0):leafB M n k=false:=by simp [leafB,h]
theorem lT {M:Nat→Mem} {n k:Nat} (h:(M k).formula.size=0):leafB M n k = !decide (0≤findFrom (gW M k) n 0):=by simp [leafB,h]
theorem wf (b o n cap i:Nat) (M:Nat→Mem) (w:World) (x:n≤12) (u:i<n) (l:b8 w b o n M):Rt 208 #[.slice (some ⟨b,o,none⟩) n cap,.int .i64 i] w (.bool (leafB M n i)):=by
 have s:=gf w i 3;have a:=dO w i 3;have r:=lA w i 3;have g:=l.later a;have c:=jJ 246 w.heap.size we b o n cap M (gW M i) (gD w i 3) x g (fun j w' _ h=>tB (M j) i w.heap.size w' (by have:=h.size;omega) (aL h (by show w.heap.size<_;omega) r))
 have m:=aa a;obtain ⟨-,-,-,z⟩:=l.2 i u;have t:=l.1;have v:(i:Int)<(n:Int):=by omega
 have y:(n:Int)≤12:=by omega
 clear l s a r g
 by_cases d:(M i).formula.size=0
 ·have q:(M i).formula.toList.isEmpty=true:=by rw [aN];simpa using d
  have k:Hid (leafB M n i = !decide (0≤findFrom (gW M i) n 0)):=lT d;clear d;generalize decide (0≤findFrom (gW M i) n 0)=f at c k
  go_enter Tryz.func208,Tryz.ntmps208
  go_wp2_with fail;refine c.mono ?_;rintro e w1 ⟨rfl,p⟩;go_wp2_with fail;go_ret;exact ⟨by rw [k.out];rfl,ae m.out p⟩
 have q:(M i).formula.toList.isEmpty=false:=by rw [aN];simpa using d
 have k:Hid (leafB M n i=false):=nP d;clear d c
 go_enter Tryz.func208,Tryz.ntmps208
 go_wp2_with fail;go_ret;exact ⟨by rw [k.out];rfl,by go_grown⟩
def bU (w:World) (A:Option Addr) (cap:Nat) (L:List Int):Prop:=L.length≤cap∧(L=[]∨∃ b,A=some ⟨b,0,none⟩∧b<w.heap.size∧∀ j,j<L.length→w.cell? ⟨b,j,none⟩=some (.int .i64 (L.getD j 0)))
theorem bU.later {w w':World} {A:Option Addr} {cap:Nat} {L:List Int} (h:bU w A cap L) (e:Bl w w'):bU w' A cap L:=by
 obtain ⟨c,a | ⟨b,a,d,f⟩⟩:=h
 ·exact ⟨c,Or.inl a⟩
 exact ⟨c,Or.inr ⟨b,a,zW d e.size,fun j g=>aL e d (f j g)⟩⟩
def aE (L:List Int):List Value:=L.map (Value.int .i64)
theorem mapI_snoc (L:List Int) (x:Int):aE (L ++ [x])=aE L ++ [Value.int .i64 x]:=by simp [aE]
theorem rA {w:World} {base e:Nat} {v:Value} {L:List Int} (h:w.ownsRow base e 1 v L.length (aE L)):∃ A cap,v=.slice A L.length cap∧bU w A cap L:=by
 rcases h.2 with ⟨rfl,b⟩ | ⟨g,cap,d,rfl,l,i,f,_,_,_⟩
 ·exact ⟨none,0,by rw [b],by omega,Or.inl (List.eq_nil_of_length_eq_zero b)⟩
 refine ⟨_,cap,rfl,f,Or.inr ⟨g,rfl,(zY i).1,fun j k=>?_⟩⟩
 have c:=h.cells (g:=g) rfl j (.int .i64 (L.getD j 0)) (by simp [aE,List.getD,zX k])
 have a:(⟨g,0,none⟩:Addr).add j=⟨g,j,none⟩:=by unfold Addr.add;split <;> simp_all
 rw [a] at c;exact c
theorem ar {w w':World} {base e size:Nat} {v:Value} {n:Nat} {a:List Value} (h:w.ownsRow base e size v n a) (b:Bl w w'):w'.ownsRow base e size v n a:=by
 refine ⟨h.1,?_⟩
 rcases h.2 with h0 | ⟨g,cap,cur,rfl,hb,hg,h1⟩
 ·exact Or.inl h0
 exact Or.inr ⟨g,cap,cur,rfl,hb,(b.block g (zY hg).1).trans hg,h1⟩
theorem bA {w wr w1:World} {e size n:Nat} {v:Value} {f:List Value} {o:Obj} (c:Bl w wr) (b:wr.ownsRow w.heap.size e size v n f) (a:(wr.alloc o).grownBy w1 v.ownBlock):Bl w w1 :=
 (c.alloc c.size o).grown a (by have:=c.size;simp;omega) (fun j d=>(b.lt j d).1)
theorem bu {wr:World} {x:Value} {T:Nat}:∀ j u,[x][j]?=some u→(wr.alloc (.cells #[x] T)).cell? ((⟨wr.heap.size,0,none⟩:Addr).add j)=some u:=by
 intro j u a
 match j,a with
 | 0,a=>simp at a;subst a;simp [Addr.add]
theorem dY {x:Int}:∀ u∈[Value.int .i64 x],u.oneCell'=true:=by intro u a;simp at a;subst a;rfl
theorem Tryz.infoInt:(Tryz.prog.info? 3).map (fun i=>(i.zero,i.size,i.bytes))=some (some (.int .i64 0),1,8):=by kernel_rfl
theorem nU (u k:Nat) (c:1≤k) (h:u<10 ^ k):(decDigits u).length≤k:=by
 induction k generalizing u with
 | zero=>omega
 | succ k ih =>
  by_cases b:u<10
  ·rw [decDigits_one b];simp
  rw [decDigits,dif_neg b,List.length_append,List.length_singleton];have a:1≤k:=by
   rcases Nat.eq_zero_or_pos k with rfl | h0
   ·omega
   exact h0
  have:=ih (u / 10) a (by rw [Nat.pow_succ] at h;omega)
  omega
theorem FW:∀ p:Fin 10,(ByteArray.mk #[48,49,50,51,52,53,54,55,56,57]).extract p.val (p.val+1)=⟨#[UInt8.ofNat (48+p.val)]⟩:=by decide +kernel
theorem pX (d:Nat) (h:d<10):(ByteArray.mk #[48,49,50,51,52,53,54,55,56,57]).extract d (d+1)=⟨#[UInt8.ofNat (48+d)]⟩:=FW ⟨d,h⟩
theorem vy (u:Nat) (h:u<10) (w:World):Calls Tryz.prog 42 #[.int .i64 u] w fun e w'=>e=.returned (.string ⟨(Lib.decDigits u).toArray⟩)∧w'=w:=by
 have a:(u:Int)<10:=by omega
 go_enter Tryz.func42,Tryz.ntmps42
 go_wp2;go_ret;exact ⟨by rw [pX u h,Lib.decDigits_one h];rfl,rfl⟩
theorem sZ (u:Nat) (h:10≤u) (o:u≤1000000000000) (w:World) (ih:∀ w:World,Calls Tryz.prog 42 #[.int .i64 ((u / 10:Nat):Int)] w fun e w'=>e=.returned (.string ⟨(Lib.decDigits (u / 10)).toArray⟩)∧w'=w):Calls Tryz.prog 42 #[.int .i64 u] w fun e w'=>e=.returned (.string ⟨(Lib.decDigits u).toArray⟩)∧w'=w:=by
 have l:(10:Int)≤u:=by omega
 have m:(u:Int)≤1000000000000:=by omega
 have c:∀ w:World,Calls Tryz.prog 42 #[.int .i64 ((u:Int) / 10)] w fun e w'=>e=.returned (.string ⟨(Lib.decDigits (u / 10)).toArray⟩)∧w'=w:=by
  rw [show ((u:Int) / 10)=((u / 10:Nat):Int) from by omega]
  exact ih
 have b:(Lib.decDigits (u / 10)).length≤15:=nU _ 15 (by omega) (by omega)
 have a:(ByteArray.mk (Lib.decDigits (u / 10)).toArray) ++ (ByteArray.mk #[UInt8.ofNat (48+u % 10)])=⟨(Lib.decDigits u).toArray⟩:=by
  rw [Lib.decDigits.eq_1 u,dif_neg (by omega)]
  apply ByteArray.ext
  simp
 have f:=aa a;have j:(ByteArray.mk (Lib.decDigits (u / 10)).toArray).size≤15:=by
  show (Lib.decDigits (u / 10)).toArray.size≤15
  simpa using b
 clear a ih b;generalize ByteArray.mk (Lib.decDigits (u / 10)).toArray=s0 at c f j;generalize ByteArray.mk (Lib.decDigits u).toArray=s1 at f ⊢;obtain ⟨d,g⟩:∃ d:Nat,u % 10=d:=⟨_,rfl⟩;have n:(u:Int) % 10=(d:Int):=by omega
 have k:(d:Int)<10:=by omega
 have i:d<10:=by omega
 rw [g] at f
 go_enter Tryz.func42,Tryz.ntmps42
 go_wp2_with fail;refine (c _).mono ?_;rintro e w1 ⟨rfl,rfl⟩;go_wp2_with fail;go_ret;exact ⟨by rw [pX d i,f.out];rfl,rfl⟩
theorem nv (u:Nat) (a:u≤1000000000000):∀ w:World,Calls Tryz.prog 42 #[.int .i64 u] w fun e w'=>e=.returned (.string ⟨(Lib.decDigits u).toArray⟩)∧w'=w:=by
 induction u using Nat.strongRecOn with
 | _ u ih =>
  intro w
  by_cases h:u<10
  ·exact vy u h w
  exact sZ u (by omega) a w (ih (u / 10) (by omega) (by omega))
theorem vx (n:Int) (g : -1000000000000≤n) (i:n≤1000000000000) (w:World):Calls Tryz.prog 42 #[.int .i64 n] w fun e w'=>e=.returned (.string ⟨(Lib.itoa n).toArray⟩)∧w'=w:=by
 unfold Lib.itoa
 by_cases h:n<0
 ·rw [if_pos h]
  have d:=nv n.natAbs (by omega)
  rw [show ((n.natAbs:Nat):Int) = -n from by omega] at d
  have b:(Lib.decDigits n.natAbs).length≤15:=nU _ 15 (by omega) (by omega)
  have a:(ByteArray.mk #[45]) ++ (ByteArray.mk (Lib.decDigits n.natAbs).toArray)=⟨(45 :: Lib.decDigits n.natAbs).toArray⟩:=by
   apply ByteArray.ext
   simp
  have c:=aa a;have f:(ByteArray.mk (Lib.decDigits n.natAbs).toArray).size≤15:=by
   show (Lib.decDigits n.natAbs).toArray.size≤15
   simpa using b
  clear a b;generalize ByteArray.mk (Lib.decDigits n.natAbs).toArray=s0 at d c f;generalize ByteArray.mk (45 :: Lib.decDigits n.natAbs).toArray=s1 at c ⊢
  go_enter Tryz.func42,Tryz.ntmps42
  go_wp2_with fail;refine (d _).mono ?_;rintro e w1 ⟨rfl,rfl⟩;go_wp2_with fail;go_ret;exact ⟨by rw [c.out];rfl,rfl⟩
 rw [if_neg h];obtain ⟨u,rfl⟩:∃ u:Nat,n=(u:Int):=⟨n.toNat,by omega⟩
 exact nv u (by omega) w
theorem C3 (s:ByteArray) (k:Nat) (h:k<s.size):byteN s k=(s[k].toNat:Int):=by
 unfold byteN;rw [List.getD,zX (by simpa using h)]
 rfl
theorem lG (s:ByteArray) (w:World):Calls Tryz.prog 107 #[.string s] w fun e w'=>e=.returned (.int .i64 (aJ s))∧w'=w:=by
 by_cases c:s.size<1
 ·rw [fa (Or.inl c)]
  have p:s.toList.isEmpty=true:=by rw [aN];simpa using (by omega:s.size=0)
  clear c
  go_enter Tryz.func107,Tryz.ntmps107
  go_wp2;go_ret;exact ⟨rfl,rfl⟩
 have u:s.toList.isEmpty=false:=by rw [aN];simpa using (by omega : ¬ s.size=0)
 by_cases p:8<s.size
 ·rw [fa (Or.inr p)]
  have i:8<(s.size:Int):=by omega
  clear c
  go_enter Tryz.func107,Tryz.ntmps107
  go_wp2;go_ret;exact ⟨rfl,rfl⟩
 have i:(s.size:Int)≤8:=by omega
 have f:Hid (aJ s=if 0≤findFrom (cX s) s.size 0 then 2 else 0):=jM (by omega) (by omega)
 clear c
 go_enter Tryz.func107,Tryz.ntmps107
 go_wp2
 go_loopg [3] s.size (fun g s3 wr => ∃ k:Nat,k≤s.size∧g=s.size-k∧s3=.int .i64 k∧findFrom (cX s) (s.size-k) k=findFrom (cX s) s.size 0∧wr=w)
 case atStart=>exact ⟨0,zU,rfl,rfl,rfl,rfl⟩
 case round =>
  obtain ⟨k,v,rfl,rfl,d,rfl⟩:=hrel
  by_cases n:k<s.size
  ·have b:=aa d
   have a:s.size-k=(s.size-(k+1))+1:=by omega
   have m:(k:Int)<(s.size:Int):=by omega
   have o:=C3 s k n;have h:=aa o;clear d o
   by_cases r:(s[k].toNat:Int)<97
   ·go_wp2
    go_ret;have j:cX s k=true:=by unfold cX vd;rw [h.out];simp [r]
    exact ⟨by rw [f.out,←b.out,a,aW _ j,if_pos (by omega)];rfl,rfl⟩
   by_cases t:122<(s[k].toNat:Int)
   ·go_wp2
    go_ret;have j:cX s k=true:=by unfold cX vd;rw [h.out];simp [t]
    exact ⟨by rw [f.out,←b.out,a,aW _ j,if_pos (by omega)];rfl,rfl⟩
   have q:Hid (cX s k=false):=by show cX s k=false;unfold cX vd;rw [h.out];simp;omega
   go_wp2
   go_roundg (s.size-(k+1))
   case measure=>omega
   case rel=>exact ⟨k+1,by omega,rfl,by go_num,by rw [←b.out,a,aU _ q.out],rfl⟩
  have l:k=s.size:=by omega
  have b:=aa d;have m:(s.size:Int)≤(k:Int):=by omega
  clear d;go_wp2;go_ret;exact ⟨by rw [f.out,←b.out,l,Nat.sub_self];rfl,rfl⟩
theorem lN (d:Dm) (A:Option Addr) (cap:Nat) (s:ByteArray) (w:World) (G:d.n≤12) (t:dP w A cap d.n d.mem):Rt 57 #[cA d A cap,.string s] w (.int .i64 (findFrom (fun j=>same (d.mem j).name s) d.n 0)):=by
 have z:=aa t;clear t;unfold cA;have C:(d.n:Int)≤12:=by omega
 have u:=aZ w d A cap 37;have e:=aM w d A cap 37;have c:=(dD w d A cap 37).2.2;obtain ⟨W,m⟩:∃ W,W=aI w d A cap 37:=⟨_,rfl⟩;rw [←m] at e u c;have B:=aa m;have y:=aa c;have a:=aa e;have D:w.heap.size<W.heap.size:=by omega
 clear m c e u
 go_enter Tryz.func57,Tryz.ntmps57
 go_wp2_with fail
 go_loopg [5] d.n (fun g s5 wr => ∃ k:Nat,k≤d.n∧g=d.n-k∧s5=.int .i64 k∧findFrom (fun j=>same (d.mem j).name s) (d.n-k) k=findFrom (fun j=>same (d.mem j).name s) d.n 0∧wr=W)
 case atStart=>exact ⟨0,zU,rfl,rfl,rfl,by rw [B.out];rfl⟩
 case round =>
  obtain ⟨k,F,rfl,rfl,x,rfl⟩:=hrel;have i:=aa x;have c2:=y.out;clear x
  by_cases r:k<d.n
  ·obtain ⟨v,E | ⟨b,o,rfl,f⟩⟩:=z.out.later a.out
   ·omega
   obtain ⟨n0,-,-,-⟩:=f.2 k r;have q:(k:Int)<(d.n:Int):=by omega
   have h:d.n-k=(d.n-(k+1))+1:=by omega
   clear f;cases hq:((d.mem k).name.toList == s.toList)
   ·have l:=aa hq
    go_wp2_with fail
    go_roundg (d.n-(k+1))
    case measure=>omega
    case rel=>exact ⟨k+1,by omega,rfl,by go_num,by rw [←i.out,h,aU _ l.out],rfl⟩
   have l:=aa hq;go_wp2_with fail;go_ret;exact ⟨by rw [←i.out,h,aW _ l.out];rfl,a.out⟩
  have p:k=d.n:=by omega
  have q:(d.n:Int)≤(k:Int):=by omega
  go_wp2_with fail;go_ret;exact ⟨by rw [←i.out,p,Nat.sub_self];rfl,a.out⟩
end Go.Proofs.YthlhjjabkgpenaaGreatDoor
