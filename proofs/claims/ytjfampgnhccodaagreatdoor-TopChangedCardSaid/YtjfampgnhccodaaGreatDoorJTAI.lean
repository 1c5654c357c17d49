/- What checkOutline, Cel -/
import Derived.Deep.OwnRows
import Derived.Lib.Builder
import Derived.Deep.QuietTactic
import Derived.Deep.RegionHeld3
import Derived.Lib.SliceRun
import Derived.Test.YtjfampgnhccodaaGreatDoorJTAH
namespace Go.Proofs.YtjfampgnhccodaaGreatDoor
open Tryz ChangeShapes WideShapes ChangeAt RowKit
set_option maxRecDepth 99999
set_option maxHeartbeats 0
def de(w:World)(A:Option Addr)(cap:Nat)(L:List Int):Prop:=L.length<=cap/\(L=[]\/∃b o,A=some ⟨b,o,none⟩/\b<w.heap.size/\∀j,j<L.length->w.cell? ⟨b,o+j,none⟩=some (.int .i64 (L.getD j 0)))
theorem de.later{w w':World}{A:Option Addr}{cap:Nat}{L:List Int}(h:de w A cap L)(e:Bl w w'):de w' A cap L:=by
 obtain⟨c,a|⟨b,o,a,d,f⟩⟩:=h
 ·exact⟨c,Or.inl a⟩
 exact⟨c,Or.inr ⟨b,o,a,zW d e.size,fun j g=>aM e d (f j g)⟩⟩
theorem de.nil(w:World)(A:Option Addr)(cap:Nat):de w A cap []:=⟨zU,Or.inl rfl⟩
def eU(N:Nat)(A:Option Addr):Prop := ∀b o,A=some ⟨b,o,none⟩->N<=b
theorem eU.none(N:Nat):eU N none:=fun _ _ h=>by cases h
theorem eU.le{N M:Nat}{A:Option Addr}(h:eU N A)(a:M<=N):eU M A:=fun b o e=>zV a (h b o e)
def el(w:World)(g:Nat)(L:List Int):Prop:=w.heap[g]?=some (.cells (L.map (Value.int .i64)).toArray 3 (0,0))
theorem el.lt{w:World}{g:Nat}{L:List Int}(h:el w g L):g<w.heap.size:=(zY h).1
theorem el.cell{w:World}{g:Nat}{L:List Int}(h:el w g L){j:Nat}(a:j<L.length):w.cell? ⟨g,j,none⟩=some (.int .i64 (L.getD j 0)):=by
 rw[Lib.cell_of_heap h]
 simp[List.getD,a]
theorem el.frozen{w:World}{g:Nat}{L:List Int}(h:el w g L)(j:Nat):w.frozen? ⟨g,j,none⟩=false:=Lib.frozen_of_heap h j
theorem el.later{w w':World}{g:Nat}{L:List Int}(h:el w g L)(a:Bl w w'):el w' g L:=(a.block g h.lt).trans h
theorem el.set{w:World}{g:Nat}{L:List Int}(h:el w g L)(j:Nat)(x:Int):el (w.setCell ⟨g,j,none⟩ (.int .i64 x)) g (L.set j x):=by
 unfold el at *;have e:(L.set j x).map (Value.int .i64)=(L.map (Value.int .i64)).set j (.int .i64 x):=by rw[List.map_set]
 simp[World.setCell,Array.getElem?_modify,h,e]
theorem el.pl{w:World}{g:Nat}{L:List Int}(h:el w g L):de w (some ⟨g,0,none⟩) L.length L :=
 ⟨zT,Or.inr ⟨g,0,rfl,h.lt,fun j a=>by rw[Nat.zero_add];exact h.cell a⟩⟩
theorem ts(n:Nat):madeCells #[.int .i64 0] n=((List.replicate n (0:Int)).map (Value.int .i64)).toArray:=by
 apply Array.ext
 ·simp[madeCells]
 intro i a b
 simp[madeCells,Nat.mod_one]
theorem el.made(w:World)(n:Nat):el (w.alloc (.cells (madeCells #[.int .i64 0] n) 3)) w.heap.size (List.replicate n 0):=by
 unfold el;rw[ts];exact heap_alloc_new w _
theorem infoIntP:(prog.info? 3).map (fun i=>(i.zero,i.size,i.bytes))=some (some (.int .i64 0),1,8):=by kernel_rfl
theorem kW(A0:Option Addr)(cap n:Nat)(D:Nat->Dm)(A:Nat->Option Addr)(C:Nat->Nat)(w:World)(d:aL w A0 cap n D A C):Rt 104 #[.agg #[.slice A0 n cap]] w (errV (ag D n).2.2):=by
 have a:=ay w A0 n cap 24;have h:=ub A0 cap n D A C (aE w A0 n cap 24) (d.later a);have b:=aa a;clear d a;generalize errV (ag D n).2.2=v at h;generalize (ag D n).1=x at h;generalize (ag D n).2.1=y at h
 go_enter func104,ntmps104
 go_wp2_with fail;refine h.mono ?_;rintro e w1⟨rfl,c⟩;go_wp2_with fail;go_ret;exact⟨rfl,ad b.o c⟩
def ja(D:Nat->Dm)(n:Nat):Int:=if(ag D n).2.2=0 then(prodN D n:Int)else 0
theorem q7(A0:Option Addr)(cap n:Nat)(D:Nat->Dm)(A:Nat->Option Addr)(C:Nat->Nat)(w:World)(t:aL w A0 cap n D A C):Rt 62 #[.agg #[.slice A0 n cap]] w (.tuple #[.int .i64 (ja D n),errV (ag D n).2.2]):=by
 have i:=ay w A0 n cap 24;have h:=kW A0 cap n D A C (aE w A0 n cap 24) (t.later i);have l:=aa i;have F:=aa t;clear t i
 by_cases f:(ag D n).2.2=0
 ·obtain⟨L,M,-,z⟩:=ao f
  have HV:Hid (ja D n=(prodN D n:Int)):=by show _=_;unfold ja;rw[if_pos f]
  have q:Hid (errV (ag D n).2.2=.nilIface):=by show _=_;rw[f];rfl
  rw[f,errV_zero]at h;have E:=aa z;have K:(n:Int)<=4:=ω;clear f z
  go_enter func62,ntmps62
  go_wp2_with fail;refine h.mono ?_;rintro e w1⟨rfl,a⟩;have s:Bl w w1:=ad l.o a;have Q:w1.cell? ⟨w.heap.size,0,none⟩=some (.slice A0 n cap):=aM a (by show w.heap.size<_;rw[aB];omega) (aU ..)
  obtain⟨y,I|⟨b,o,rfl,m⟩⟩:=F.o.later s
  ·omega
  have r:=aa m;have B:=aa s;clear a h m s;go_wp2_with fail
  go_loopg [5,16] n (fun g s5 ab wr =>∃(k:Nat),k<=n/\g=n-k/\ab=.int .i64 k/\s5=.int .i64 (prodN D k)/\Bl w1 wr)
  case atStart=>exact⟨0,zU,rfl,rfl,rfl,zS⟩
  case round =>
   obtain⟨k,T,rfl,rfl,rfl,d⟩:=hrel
   by_cases v:k<n
   ·obtain⟨I,P,R,-⟩:=(r.o.later d).2 k v
    have J:(k:Int)<(n:Int):=ω;have x:prodN D (k+1)<=20736:=ri (fun j S=>(E.o j ω).2) ω
    have p:(prodN D (k+1):Int)=(prodN D k:Int)*((D k).n:Int):=by rw[prodN];exact Int.natCast_mul _ _
    have N:0<=(prodN D k:Int)*((D k).n:Int):=ω;have O:(prodN D k:Int)*((D k).n:Int)<=20736:=ω;have H:=aa d;have G:=aa p;clear d x p;go_wp2_with fail
    go_roundg (n-(k+1))
    case measure=>omega
    case rel=>exact⟨k+1,ω,rfl,by go_num,by rw[G.o],ad H.o γ⟩
   have u:k=n:=ω;subst u;go_wp2_with fail
   go_ret2
   rw[HV.o,q.o];exact⟨rfl,ad B.o d⟩
 have HV:Hid (ja D n=0):=by show _=_;unfold ja;rw[if_neg f]
 have q:Hid (errV (ag D n).2.2=.iface 71 (.int .i64 (ag D n).2.2)):=ac f;rw[ac f]at h;clear f;generalize (ag D n).2.2=c at h q
 go_enter func62,ntmps62
 go_wp2_with fail;refine h.mono ?_;rintro e w1⟨rfl,a⟩;go_wp2_with fail
 go_ret2
 rw[HV.o,q.o];exact⟨rfl,ad l.o a⟩
def Og(fn q r:Nat)(w:World)(n:Nat)(p:Nat->Bool):Prop := ∀(i:Nat) (w':World),i<n->Bl w w'->Calls prog fn #[.int .i64 i,.pointer (some ⟨q,0,none⟩),.pointer (some ⟨r,0,none⟩)] w' fun e w''=>e=.returned (.bool (p i))/\Bl w' w''
theorem AI(A:Option Addr)(cap:Nat)(L:List Int)(i:Int)(w:World)(E:L.length<=12)(z:dG w A cap L):Rt 190 #[.slice A L.length cap,.int .i64 i] w (.int .i64 (findFrom (fun j=>L.getD j 0 ==i) L.length 0)):=by
 obtain⟨C,y|⟨b,rfl,B,c⟩⟩:=z
 ·subst y
  simp only[List.length_nil]
  go_enter func190,ntmps190
  go_wp2_with fail;refine wp_loop_rounds 1 ?_;rw[rounds_succ];go_wp2_with fail;go_ret;exact⟨rfl,zS⟩
 have t:=aa c;obtain⟨p,s⟩:∃p:Nat->Bool,p=fun j=>L.getD j 0 ==i:=⟨_,rfl⟩
 have v:Hid (∀j,p j=(L.getD j 0 ==i)):=fun j=>by rw[s]
 rw[←s];generalize ab:L.length=n at E C t;clear c s ab
 go_enter func190,ntmps190
 go_wp2_with fail
 go_loopg [8] n (fun g s8 wr =>∃(k:Nat),k<=n/\g=n-k/\s8=.int .i64 k/\findFrom p (n-k) k=findFrom p n 0/\wr=w)
 case atStart=>exact⟨0,zU,rfl,rfl,rfl,rfl⟩
 case round =>
  obtain⟨k,H,rfl,rfl,u,rfl⟩:=hrel;have f:=aa u;clear u
  by_cases r:k<n
  ·have D:(k:Int)<(n:Int):=ω;have o:=t.o k r;have e:n-k=(n-(k+1))+1:=ω;have F:(n:Int)<=12:=ω;have a:=v.o k;have d:=aa e;generalize L.getD k 0=x at o a;clear e;cases hb:p k
   ·have l:=aa hb
    rw[hb]at a;have G:(i ==x)=false:=by
     have m:x≠i:=by simpa using a.symm
     simpa using fun h:i=x=>m h.symm
    clear hb a;go_wp2_with fail
    go_roundg (n-(k+1))
    case measure=>omega
    case rel=>exact⟨k+1,ω,rfl,by go_num,by rw[←f.o,d.o,bj _ l.o],rfl⟩
   have l:=aa hb;rw[hb]at a;have G:(i ==x)=true:=by
    have m:x=i:=by simpa using a.symm
    simpa using m.symm
   clear hb a;go_wp2_with fail;go_ret;exact⟨by rw[←f.o,d.o,bI _ l.o];rfl,zS⟩
  have q:k=n:=ω;subst q;go_wp2_with fail;go_ret;exact⟨by rw[←f.o,Nat.sub_self];rfl,zS⟩
theorem kJ(A:Option Addr)(cap:Nat)(L:List Int)(i:Int)(w:World)(d:L.length<=12)(c:dG w A cap L):Rt 135 #[.slice A L.length cap,.int .i64 i] w (.bool (o9 L i)):=by
 have h:=AI A cap L i w d c;have b:Hid (decide (0<=findFrom (fun j=>L.getD j 0 ==i) L.length 0)=o9 L i):=Lq L i
 generalize findFrom (fun j=>L.getD j 0 ==i) L.length 0=f at h b
 generalize L.length=n at h;clear c d
 go_enter func135,ntmps135
 go_wp2_with fail;refine h.mono ?_;rintro e w1⟨rfl,a⟩;go_wp2_with fail;go_ret;exact⟨by rw[←b.o];rfl,a⟩
theorem mn{w:World}{A:Option Addr}{cap:Nat}{L:List Int}(h:dG w A cap L):de w A cap L:=by
 obtain⟨c,a|⟨b,a,d,e⟩⟩:=h
 ·exact⟨c,Or.inl a⟩
 exact⟨c,Or.inr ⟨b,0,a,d,fun j f=>by rw[Nat.zero_add];exact e j f⟩⟩
theorem tm(F:Nat)(cap:Array Value)(p:Int->Bool)(E:∀(args:Array Value) (w:World),(callFunc F args).run prog w=.ok (.enter F args) w)(A:Option Addr)(c:Nat)(L:List Int)(w:World)(O:L.length<=1048576)(K:de w A c L)
  (D:∀(x:Int) (w':World),x∈L->Bl w w'->Calls prog F (#[.int .i64 x]++cap) w' fun e ab=>e=.returned (.bool (p x))/\Bl w' ab):
  Rt 164 #[.slice A L.length c,.func (.func F) #[] cap] w (.int .i64 (findFrom (fun j=>p (L.getD j 0)) L.length 0)):=by
 obtain⟨M,J|⟨b,o,rfl,y,d⟩⟩:=K
 ·subst J
  simp only[List.length_nil]
  go_enter func164,ntmps164
  go_wp2_with fail;refine wp_loop_rounds 1 ?_;rw[rounds_succ];go_wp2_with fail;go_ret;exact⟨rfl,zS⟩
 have C:=aa d;have H:=aa D;obtain⟨pj,l⟩:∃pj:Nat->Bool,pj=fun j=>p (L.getD j 0):=⟨_,rfl⟩
 have I:Hid (∀j,pj j=p (L.getD j 0)):=fun j=>by rw[l]
 rw[←l];obtain⟨n,i⟩:=ar L.length;have t:=aa i;rw[i]at O M C|-;clear d l i D
 go_enter func164,ntmps164
 go_wp2_with fail
 go_loopg [8] n (fun g s8 wr =>∃(k:Nat),k<=n/\g=n-k/\s8=.int .i64 k/\findFrom pj (n-k) k=findFrom pj n 0/\Bl w wr)
 case atStart=>exact⟨0,zU,rfl,rfl,rfl,zS⟩
 case round =>
  obtain⟨k,Q,rfl,rfl,G,f⟩:=hrel;have u:=aa G;have v:=aa f;clear G
  by_cases r:k<n
  ·have N:(k:Int)<(n:Int):=ω;have z:=aM f y (C.o k r);have P:(n:Int)<=1048576:=ω;have m:=I.o k;have q:Hid (n-k=(n-(k+1))+1):=by show _=_;omega
   have a:=H.o (L.getD k 0) wr (by rw[zZ,zX (by rw[t.o];exact r)];exact List.getElem_mem _) f
   rw[←m]at a;generalize L.getD k 0=x at z m a;clear f m;cases hb:pj k
   ·rw[hb]at a
    have s:=aa hb;clear hb;go_wp2_with fail;refine a.mono ?_;rintro e w1⟨rfl,h⟩;go_wp2_with fail
    go_roundg (n-(k+1))
    case measure=>omega
    case rel=>exact⟨k+1,ω,rfl,by go_num,by rw[←u.o,q.o,bj _ s.o],ad v.o h⟩
   rw[hb]at a;have s:=aa hb;clear hb;go_wp2_with fail;refine a.mono ?_;rintro e w1⟨rfl,h⟩;go_wp2_with fail;go_ret;exact⟨by rw[←u.o,q.o,bI _ s.o];rfl,ad v.o h⟩
  have B:k=n:=ω;subst B;go_wp2_with fail;go_ret;exact⟨by rw[←u.o,Nat.sub_self];rfl,v.o⟩
theorem pY(F:Nat)(cap:Array Value)(p:Int->Bool)(a:∀(args:Array Value) (w:World),(callFunc F args).run prog w=.ok (.enter F args) w)(A:Option Addr)(c:Nat)(L:List Int)(w:World)(g:L.length<=1048576)(f:de w A c L)
  (d:∀(x:Int) (w':World),x∈L->Bl w w'->Calls prog F (#[.int .i64 x]++cap) w' fun e aa=>e=.returned (.bool (p x))/\Bl w' aa):
  Rt 115 #[.slice A L.length c,.func (.func F) #[] cap] w (.bool (decide (0<=findFrom (fun j=>p (L.getD j 0)) L.length 0))):=by
 have h:=tm F cap p a A c L w g f d;generalize findFrom (fun j=>p (L.getD j 0)) L.length 0=r at *
 clear d f
 go_enter func115,ntmps115
 go_wp2_with fail;refine h.mono ?_;rintro e w1⟨rfl,b⟩;go_wp2_with fail;go_ret;exact⟨rfl,b⟩
def Bv(n:Nat)(i:Int):Bool:=decide (i<0)||decide ((n:Int)<=i)
theorem zm(i:Int)(A:Option Addr)(n cap q:Nat)(w:World)(h:w.cell? ⟨q,2,none⟩=some (.slice A n cap)):Rt 199 #[.int .i64 i,.pointer (some ⟨q,0,none⟩)] w (.bool (Bv n i)):=by
 unfold Bv
 by_cases a:i<0
 ·go_enter func199,ntmps199
  go_wp2;go_ret;exact⟨by simp<;>omega,by go_grown⟩
 go_enter func199,ntmps199
 go_wp2;go_ret;exact⟨by simp<;>omega,by go_grown⟩
theorem pX(A:Option Addr)(cap:Nat)(L:List Int)(Am:Option Addr)(nm cm q:Nat)(w:World)(e:L.length<=2)(c:dG w A cap L)(d:q<w.heap.size)(a:w.cell? ⟨q,2,none⟩=some (.slice Am nm cm)):
  Rt 115 #[.slice A L.length cap,.func (.func 199) #[] #[.pointer (some ⟨q,0,none⟩)]] w (.bool (decide (0<=findFrom (fun j=>Bv nm (L.getD j 0)) L.length 0))):=
 pY 199 #[.pointer (some ⟨q,0,none⟩)] (Bv nm) (fun args w=>by simp[callFunc,func199];rfl) A cap L w ω (mn c) fun x w' _ b=>zm x Am nm cm q w' (aM b d a)
theorem sA{d:Dm}{L:List Int}(h:(am d).2=0):treeErr d L=if 0<=findFrom (fun j=>Bv d.n (L.getD j 0)) L.length 0 then 1 else 0:=by
 unfold treeErr ro;rw[if_neg (by simpa using h)];rfl
theorem rN(d:Dm)(A:Option Addr)(cap:Nat)(Ai:Option Addr)(q:Nat)(L:List Int)(w:World)(B:dC w A cap d.n d.mem)(I:L.length<=2)(z:dG w Ai q L):Rt 146 #[dw d A cap,.slice Ai L.length q] w (errV (treeErr d L)):=by
 have C:=bg w d A cap 67;have k:=bu w d A cap 67;have y:=(fE w d A cap 67).2.2;have a:=gD d A cap (aH w d A cap 67) (B.later k);unfold dw at a|-;have o:=aa k;have u:=aa C;have D:=aa y;have F:=aa z;clear B C k y z
 by_cases h:(am d).2=0
 ·obtain⟨v,G,H,-⟩:=aq h
  rw[h,v,errV_zero]at a;have E:=aa h;clear h v
  go_enter func146,ntmps146
  go_wp2_with fail;refine a.mono ?_;rintro e w1⟨rfl,b⟩;have r:Bl w w1:=ad o.o b;have J:w.heap.size<w1.heap.size:=by
   have:=b.size;rw[u.o]at this
   omega
  have x:w1.cell? ⟨w.heap.size,2,none⟩=some (.slice A d.n cap):=aM b (by show w.heap.size<_;rw[u.o];omega) D.o
  have g:=pX Ai q L A d.n cap w.heap.size w1 I (F.o.later r) J x;have p:Hid (treeErr d L=if 0<=findFrom (fun j=>Bv d.n (L.getD j 0)) L.length 0 then 1 else 0):=sA E.o
  have s:=aa r;generalize findFrom (fun j=>Bv d.n (L.getD j 0)) L.length 0=f at g p
  generalize L.length=n at g;clear b a x r
  by_cases m:0<=f
  ·rw[decide_eq_true m]at g
   have i:Hid (treeErr d L=1):=by show _=_;rw[p.o,if_pos m]
   clear m p;go_wp2_with fail;refine g.mono ?_;rintro e w2⟨rfl,l⟩;go_wp2_with fail;go_ret;exact⟨by rw[i.o];rfl,ad s.o l⟩
  rw[decide_eq_false m]at g;have i:Hid (treeErr d L=0):=by show _=_;rw[p.o,if_neg m]
  clear m p;go_wp2_with fail;refine g.mono ?_;rintro e w2⟨rfl,l⟩;go_wp2_with fail;go_ret;exact⟨by rw[i.o];rfl,ad s.o l⟩
 have t:Hid (errV (treeErr d L)=.iface 71 (.int .i64 (am d).2)):=by show _=_;rw[yS h,ac h]
 rw[ac h]at a;clear h;generalize (am d).2=c at a t
 go_enter func146,ntmps146
 go_wp2_with fail;refine a.mono ?_;rintro e w1⟨rfl,b⟩;go_wp2_with fail;go_ret;exact⟨by rw[t.o];rfl,ad o.o b⟩
theorem FB:bo 240:=fun args w=>by simp[callFunc,func240];rfl
theorem BC(b o n cap k q r:Nat)(M:Nat->Mem)(i:Int)(w:World)(c:k<n)(g:n<=12)(a:cI w b o n M)(h:w.cell? ⟨q,2,none⟩=some (.slice (some ⟨b,o,none⟩) n cap))(j:w.cell? ⟨r,0,none⟩=some (.int .i64 i)):
  Rt 240 #[.int .i64 k,.pointer (some ⟨q,0,none⟩),.pointer (some ⟨r,0,none⟩)] w (.bool (bD M i k)):=by
 obtain⟨-,f,-,-⟩:=a.2 k c;have d:(k:Int)<(n:Int):=ω;have e:(n:Int)<=12:=ω;unfold bD;clear a
 go_enter func240,ntmps240
 go_wp2_with fail
 go_quiet (fail)
 go_wp2_with fail;go_ret;exact⟨by simp,aj zS _⟩
def MW(c:Int)(L:List Int):List Int:=if c=0 then L else[]
theorem IO{c:Int}(h:c=0)(L:List Int):MW c L=L:=by simp[MW,h]
theorem LF{c:Int}(h:c≠0)(L:List Int):MW c L=[]:=by simp[MW,h]
theorem sB{d:Dm}{L:List Int}(h:treeErr d L=0):(am d).2=0:=by
 unfold treeErr at h
 split at h
 ·rename_i h1;exact absurd h h1
 rename_i h1;simpa using h1
theorem CF{d:Dm}{i:Int}(h:treeErr d [i]=0):(am d).2=0/\∃k:Nat,i=k/\k<d.n:=by
 have a:=sB h;rw[ib a]at h
 by_cases b:i<0\/(d.n:Int)<=i
 ·rw[if_pos b]at h;cases h
 exact⟨a,i.toNat,ω,ω⟩
theorem wY{w:World}{i:Int}{T:Nat}:dG (il w i T) (some ⟨w.heap.size,0,none⟩) 1 [i]:=by
 refine⟨zT,Or.inr ⟨_,rfl,by rw[gY];omega,fun j b=>?_⟩⟩
 have a:j=0:=by simp at b;omega
 subst a;exact nr w i T
def oV(w:World)(d:Dm)(A:Option Addr)(cap:Nat)(i:Int)(T T':Nat):World:=il (aH w d A cap T) i T'
theorem iM(w:World)(d:Dm)(A:Option Addr)(cap:Nat)(i:Int)(T T':Nat):(oV w d A cap i T T').heap.size=w.heap.size+2:=by unfold oV;rw[gY,bg]
theorem qY(w:World)(d:Dm)(A:Option Addr)(cap:Nat)(i:Int)(T T':Nat):Bl w (oV w d A cap i T T'):=ad (bu w d A cap T) (d9 _ i T')
theorem xX(w:World)(d:Dm)(A:Option Addr)(cap:Nat)(i:Int)(T T':Nat):(oV w d A cap i T T').cell? ⟨w.heap.size,2,none⟩=some (.slice A d.n cap):=
 ((d9 (aH w d A cap T) i T').cell (p:=⟨w.heap.size,2,none⟩) (by show w.heap.size<_;rw[bg];omega)).trans (fE w d A cap T).2.2
theorem Jr(w:World)(d:Dm)(A:Option Addr)(cap:Nat)(i:Int)(T T':Nat):(oV w d A cap i T T').cell? ⟨w.heap.size+1,0,none⟩=some (.int .i64 i):=by
 unfold oV;rw[←bg w d A cap T];exact nr _ i T'
theorem Fx(w:World)(d:Dm)(A:Option Addr)(cap:Nat)(i:Int)(T T':Nat):dG (oV w d A cap i T T') (some ⟨w.heap.size+1,0,none⟩) 1 [i]:=by
 unfold oV;rw[←bg w d A cap T];exact wY
def xY(w:World)(d:Dm)(A:Option Addr)(cap:Nat)(i:Int)(T T':Nat):World:=il (oV w d A cap i T T') i T'
theorem ns(w:World)(d:Dm)(A:Option Addr)(cap:Nat)(i:Int)(T T':Nat):(xY w d A cap i T T').heap.size=w.heap.size+3:=by unfold xY;rw[gY,iM]
theorem Bz(w:World)(d:Dm)(A:Option Addr)(cap:Nat)(i:Int)(T T':Nat):Bl w (xY w d A cap i T T'):=ad (qY w d A cap i T T') (d9 _ i T')
theorem Js(w:World)(d:Dm)(A:Option Addr)(cap:Nat)(i:Int)(T T':Nat):(xY w d A cap i T T').cell? ⟨w.heap.size,2,none⟩=some (.slice A d.n cap):=
 ((d9 (oV w d A cap i T T') i T').cell (p:=⟨w.heap.size,2,none⟩) (by show w.heap.size<_;rw[iM];omega)).trans (xX ..)
theorem Jt(w:World)(d:Dm)(A:Option Addr)(cap:Nat)(i:Int)(T T':Nat):(xY w d A cap i T T').cell? ⟨w.heap.size+1,0,none⟩=some (.int .i64 i):=
 ((d9 (oV w d A cap i T T') i T').cell (p:=⟨w.heap.size+1,0,none⟩) (by show w.heap.size+1<_;rw[iM];omega)).trans (Jr ..)
theorem Fy(w:World)(d:Dm)(A:Option Addr)(cap:Nat)(i:Int)(T T':Nat):dG (xY w d A cap i T T') (some ⟨w.heap.size+2,0,none⟩) 1 [i]:=by
 unfold xY;rw[←iM w d A cap i T T'];exact wY
def uu(d:Dm)(i:Int):Bool:=decide (treeErr d [i]=0)&&leafB d.mem d.n i.toNat
theorem tS(d:Dm)(A:Option Addr)(cap:Nat)(i:Int)(w:World)(r:dC w A cap d.n d.mem):Rt 102 #[dw d A cap,.int .i64 i] w (.tuple #[.bool (uu d i),errV (treeErr d [i])]):=by
 have h:=qY w d A cap i 67 3;have a:=rN d A cap _ 1 [i] (oV w d A cap i 67 3) (r.later h) σ (Fx ..)
 have j:=aa h;have z:=aa r;unfold dw at a|-;simp only[List.length_singleton]at a;clear r h
 by_cases g:treeErr d [i]=0
 ·obtain⟨x,k,rfl,B⟩:=CF g
  rw[g,errV_zero]at a;obtain⟨-,-,t,-⟩:=aq x;have p:Hid (uu d (k:Int)=leafB d.mem d.n k):=by show _=_;simp[uu,g]
  have m:Hid (errV (treeErr d [(k:Int)])=.nilIface):=by show _=_;rw[g];rfl
  clear g x
  go_enter func102,ntmps102
  go_wp2_with fail;refine a.mono ?_;rintro e w1⟨rfl,f⟩;have q:Bl w w1:=ad j.o f;have D:w1.cell? ⟨w.heap.size,2,none⟩=some (.slice A d.n cap):=aM f (by show w.heap.size<_;rw[iM];omega) (xX ..)
  obtain⟨v,C|⟨b,o,rfl,l⟩⟩:=z.o.later q
  ·omega
  have u:=AU b o d.n cap k d.mem w1 t B l;have y:=aa q;clear f a l q;go_wp2_with fail;refine u.mono ?_;rintro e w2⟨rfl,s⟩;go_wp2_with fail
  go_ret2
  rw[p.o,m.o];exact⟨rfl,ad y.o s⟩
 have p:Hid (uu d i=false):=by show _=_;simp[uu,g]
 have m:Hid (errV (treeErr d [i])=.iface 71 (.int .i64 (treeErr d [i]))):=ac g;rw[ac g]at a;clear g;generalize treeErr d [i]=c at a m
 go_enter func102,ntmps102
 go_wp2_with fail;refine a.mono ?_;rintro e w1⟨rfl,f⟩;go_wp2_with fail
 go_ret2
 rw[p.o,m.o];exact⟨rfl,ad j.o f⟩
theorem pL(j q r:Nat)(u:bo j)(A0:Option Addr)(n cap:Nat)(p:Nat->Bool)(w:World)(z:n<=4)(s:Og j q r w n p):Rt 100 #[.agg #[.slice A0 n cap],.func (.func j) #[] #[.pointer (some ⟨q,0,none⟩),.pointer (some ⟨r,0,none⟩)]] w (.bool (decide (0<=findFrom p n 0))):=by
 have t:=aa s;have x:(n:Int)<=4:=ω;clear s;unfold bo at u
 go_enter func100,ntmps100
 go_wp2_with fail
 go_loopg [5,9] n (fun g s5 s9 wr =>∃(k:Nat),k<=n/\g=n-k/\s9=.int .i64 k/\findFrom p (n-k) k=findFrom p n 0/\Bl w wr)
 case atStart=>exact⟨0,zU,rfl,rfl,rfl,by go_grown⟩
 case round =>
  obtain⟨k,y,rfl,rfl,l,a⟩:=hrel;have f:=aa l;have i:=aa a
  by_cases o:k<n
  ·have v:(k:Int)<(n:Int):=ω;have d:Hid (n-k=(n-(k+1))+1):=by show _=_;omega
   have b:=t.o k wr o a;clear l a;cases hb:p k
   ·rw[hb]at b
    have h:=aa hb;clear hb;go_wp2_with fail;refine b.mono ?_;rintro e w1⟨rfl,c⟩;go_wp2_with fail
    go_roundg (n-(k+1))
    case measure=>omega
    case rel=>exact⟨k+1,ω,rfl,by go_num,by rw[←f.o,d.o,bj _ h.o],ad i.o c⟩
   rw[hb]at b;have h:=aa hb;clear hb;go_wp2_with fail;refine b.mono ?_;rintro e w1⟨rfl,c⟩;go_wp2_with fail;go_ret;exact⟨by rw[←f.o,d.o,bI _ h.o,decide_eq_true ω];rfl,ad i.o c⟩
  have m:k=n:=ω;subst m;clear l a;go_wp2_with fail;go_ret;exact⟨by rw[←f.o,Nat.sub_self];rfl,i.o⟩
def kQ(w:World)(A0:Option Addr)(n cap:Nat)(Ap:Option Addr)(m cp T T':Nat):World:=(aE w A0 n cap T).alloc (.cells #[.slice Ap m cp] T')
theorem dY(w:World)(A0:Option Addr)(n cap:Nat)(Ap:Option Addr)(m a T T':Nat):(kQ w A0 n cap Ap m a T T').heap.size=w.heap.size+2:=by unfold kQ;simp[aB]
theorem oG(w:World)(A0:Option Addr)(n cap:Nat)(Ap:Option Addr)(m a T T':Nat):Bl w (kQ w A0 n cap Ap m a T T'):=by unfold kQ aE;go_grown
theorem uU(w:World)(A0:Option Addr)(n cap:Nat)(Ap:Option Addr)(m a T T':Nat):(kQ w A0 n cap Ap m a T T').cell? ⟨w.heap.size,0,none⟩=some (.slice A0 n cap):=by
 unfold kQ;rw[World.cell?_alloc_lt _ _ ⟨w.heap.size,0,none⟩ (by rw[aB];exact Nat.lt_succ_self _)]
 exact aU ..
theorem uV(w:World)(A0:Option Addr)(n cap:Nat)(Ap:Option Addr)(m a T T':Nat):(kQ w A0 n cap Ap m a T T').cell? ⟨w.heap.size+1,0,none⟩=some (.slice Ap m a):=by
 unfold kQ;rw[←aB w A0 n cap T]
 simp
theorem BD:bo 125:=fun args w=>by simp[callFunc,func125];rfl
theorem x8(b o n cap k q r bp op d:Nat)(D:Nat->Dm)(A:Nat->Option Addr)(C:Nat->Nat)(x:Int)(w:World)(g:k<n)(s:n<=4)(f:(D k).n<=12)(c:eh w b o n D A C)(v:w.cell? ⟨bp,op+k,none⟩=some (.int .i64 x))(t:w.cell? ⟨q,0,none⟩=some (.slice (some ⟨bp,op,none⟩) n d))(u:w.cell? ⟨r,0,none⟩=some (.slice (some ⟨b,o,none⟩) n cap)):
  Rt 125 #[.int .i64 k,.pointer (some ⟨q,0,none⟩),.pointer (some ⟨r,0,none⟩)] w (.bool (decide (x<0)||decide (((D k).n:Int)<=x))):=by
 obtain⟨-,-,e,-⟩:=c.2 k g;have h:(k:Int)<(n:Int):=ω;have i:(n:Int)<=4:=ω;generalize (D k).n=m at e f;have p:(m:Int)<=12:=ω;clear c
 by_cases a:x<0
 ·rw[decide_eq_true a]
  go_enter func125,ntmps125
  go_wp2_with fail
  go_quiet (fail)
  go_wp2_with fail;go_ret;exact⟨by simp,aj zS _⟩
 rw[decide_eq_false a];have j:0<=x:=ω;have l:decide (x<0)=false:=decide_eq_false a
 go_enter func125,ntmps125
 go_wp2_with fail
 go_quiet (fail)
 go_wp2_with fail;go_ret;exact⟨by simp,aj zS _⟩
theorem jo(A0:Option Addr)(cap n:Nat)(D:Nat->Dm)(A:Nat->Option Addr)(C:Nat->Nat)(Ap:Option Addr)(r:Nat)(L:List Int)(w:World)(G:aL w A0 cap n D A C)(M:de w Ap r L):Rt 80 #[.agg #[.slice A0 n cap],.slice Ap L.length r] w (errV (placeErr D n L)):=by
 have s:=oG w A0 n cap Ap L.length r 24 43;have h:=kW A0 cap n D A C (kQ w A0 n cap Ap L.length r 24 43) (G.later s);have f:=aa s;have T:=aa G;have U:=aa M;clear G s M
 by_cases q:(ag D n).2.2=0
 ·obtain⟨W,z,-,O⟩:=ao q
  have v:Hid (placeErr D n L=aK D n L):=Md q;rw[q,errV_zero]at h;have S:=aa O;have V:(n:Int)<=4:=ω;clear q O
  by_cases i:L.length=n
  ·have u:((L.length:Int) ==(n:Int))=true:=by simp[i]
   have J:=aa i;obtain⟨I,K|⟨bp,op,rfl,H,g⟩⟩:=U.o
   ·rw[K]at i;simp at i;omega
   rw[i]at h f I u;rw[i];have R:Hid (∀j,j<n->w.cell? ⟨bp,op+j,none⟩=some (.int .i64 (L.getD j 0))):=fun j F=>g j ω
   clear i g
   go_enter func80,ntmps80
   go_wp2_with fail;refine h.mono ?_;rintro e w1⟨rfl,a⟩;have E:Bl w w1:=ad f.o a;have X:w.heap.size+1<w1.heap.size:=by have:=a.size;rw[dY]at this;omega
   have P:w1.cell? ⟨w.heap.size,0,none⟩=some (.slice A0 n cap):=aM a (by show w.heap.size<_;rw[dY];omega) (uU ..)
   have Q:w1.cell? ⟨w.heap.size+1,0,none⟩=some (.slice (some ⟨bp,op,none⟩) n r):=aM a (by show w.heap.size+1<_;rw[dY];omega) (uV ..)
   obtain⟨N,K|⟨b,o,rfl,y⟩⟩:=T.o.later E
   ·omega
   have d:=pL 125 (w.heap.size+1) w.heap.size BD (some ⟨b,o,none⟩) n cap (sr D L) w1 z (fun j w' F k=>x8 b o n cap j (w.heap.size+1) w.heap.size bp op r D A C (L.getD j 0) w' F z (S.o j F).2 (y.later k) (((ad E k).cell (p:=⟨bp,op+j,none⟩) H).trans (R.o j F)) (aM k X Q) (aM k (by show w.heap.size<_;omega) P))
   have B:=aa E;clear a h y E
   by_cases x:0<=findFrom (sr D L) n 0
   ·rw[decide_eq_true x]at d
    have l:Hid (placeErr D n L=1):=by show _=_;rw[v.o,PR J.o x]
    clear x;go_wp2_with fail;refine d.mono ?_;rintro e w2⟨rfl,t⟩;go_wp2_with fail;go_ret;exact⟨by rw[l.o];rfl,ad B.o t⟩
   rw[decide_eq_false x]at d;have l:Hid (placeErr D n L=0):=by show _=_;rw[v.o,Pp J.o x]
   clear x;go_wp2_with fail;refine d.mono ?_;rintro e w2⟨rfl,t⟩;go_wp2_with fail;go_ret;exact⟨by rw[l.o];rfl,ad B.o t⟩
  have u:((L.length:Int) ==(n:Int))=false:=by simp;omega
  have l:Hid (placeErr D n L=3):=by show _=_;rw[v.o,PQ i]
  generalize L.length=m at h u f;clear i
  go_enter func80,ntmps80
  go_wp2_with fail;refine h.mono ?_;rintro e w1⟨rfl,a⟩;have P:w1.cell? ⟨w.heap.size,0,none⟩=some (.slice A0 n cap):=aM a (by show w.heap.size<_;rw[dY];omega) (uU ..)
  have Q:w1.cell? ⟨w.heap.size+1,0,none⟩=some (.slice Ap m r):=aM a (by show w.heap.size+1<_;rw[dY];omega) (uV ..)
  have B:=aa (ad f.o a);clear a h;go_wp2_with fail;go_ret;exact⟨by rw[l.o];rfl,B.o⟩
 have l:Hid (placeErr D n L=(ag D n).2.2):=PK q;have v:Hid (errV (ag D n).2.2=.iface 71 (.int .i64 (ag D n).2.2)):=ac q;rw[ac q]at h;clear q;generalize (ag D n).2.2=c at h v l;generalize L.length=m at h f
 go_enter func80,ntmps80
 go_wp2_with fail;refine h.mono ?_;rintro e w1⟨rfl,a⟩;go_wp2_with fail;go_ret;exact⟨by rw[l.o,v.o];rfl,ad f.o a⟩
theorem jX(A0:Option Addr)(cap n:Nat)(D:Nat->Dm)(A:Nat->Option Addr)(C:Nat->Nat)(Ap:Option Addr)(M:Nat)(L:List Int)(w:World)(P:aL w A0 cap n D A C)(Q:de w Ap M L):Rt 64 #[.agg #[.slice A0 n cap],.slice Ap L.length M] w (.tuple #[.int .i64 (numV D n L),errV (placeErr D n L)]):=by
 have l:=ay w A0 n cap 24;have h:=jo A0 cap n D A C Ap M L (aE w A0 n cap 24) (P.later l) (Q.later l);have u:=aa l;have HM:=aa P;have HP:=aa Q;clear P l Q
 by_cases r:placeErr D n L=0
 ·have t:Hid (InO D n L):=jR r
  have HV:Hid (numV D n L=numI D L n):=by show _=_;unfold numV;rw[if_pos r]
  have I:Hid (errV (placeErr D n L)=.nilIface):=by show _=_;rw[r];rfl
  rw[r,errV_zero]at h;obtain⟨am,an,-,Z⟩:=ao t.o.right;have HD:=aa Z;have al:(n:Int)<=4:=ω;have G:=t.o.len;obtain⟨S,N|⟨bp,op,rfl,R,f⟩⟩:=HP.o
  ·rw[N]at G;simp at G;omega
  rw[G]at h S;rw[G];have HC:Hid (∀j,j<n->w.cell? ⟨bp,op+j,none⟩=some (.int .i64 (L.getD j 0))):=fun j hj=>f j ω
  clear r Z G f
  go_enter func64,ntmps64
  go_wp2_with fail;refine h.mono ?_;rintro e w1⟨rfl,a⟩;have O:Bl w w1:=ad u.o a;have h2:w1.cell? ⟨w.heap.size,0,none⟩=some (.slice A0 n cap):=aM a (by show w.heap.size<_;rw[aB];omega) (aU ..)
  obtain⟨Y,N|⟨b,o,rfl,z⟩⟩:=HM.o.later O
  ·omega
  have J:=aa z;have X:=aa O;clear a h z O;go_wp2_with fail
  go_loopg [7,19] n (fun g s7 ab wr =>∃(k:Nat),k<=n/\g=n-k/\ab=.int .i64 k/\s7=.int .i64 (numI D L k)/\Bl w1 wr)
  case atStart=>exact⟨0,zU,rfl,rfl,rfl,zS⟩
  case round =>
   obtain⟨k,hk,rfl,rfl,rfl,q⟩:=hrel;have K:=aa q
   by_cases i:k<n
   ·obtain⟨N,h1,h3,-⟩:=(J.o.later q).2 k i
    have ag:(k:Int)<(n:Int):=ω;have s:wr.cell? ⟨bp,op+k,none⟩=some (.int .i64 (L.getD k 0)):=((ad X.o q).cell (p:=⟨bp,op+k,none⟩) R).trans (HC.o k i);have F:∀o1,(wr.alloc o1).cell? ⟨bp,op+k,none⟩=some (.int .i64 (L.getD k 0)):=fun o1=>(World.cell?_alloc_lt _ _ ⟨bp,op+k,none⟩ (World.block_lt_of_cell? _ _ s)).trans s
    obtain⟨a,d,ae⟩:=bQ t.o (k:=k+1) ω
    obtain⟨B,E,af⟩:=bQ t.o (k:=k) ω
    have W:=t.o.lo k i;have H:=t.o.hi k i;obtain⟨T,U⟩:=HD.o k i;have v:Hid (numI D L (k+1)=numI D L k*((D k).n:Int)+L.getD k 0):=rfl;rw[v.o]at a d;generalize L.getD k 0=x at s F a d W H v;generalize (D k).n=m at h3 a d T U H v;generalize numI D L k=y at a d B E v;have ah:0<=y*(m:Int):=Int.mul_nonneg B ω
    have ai:y*(m:Int)<=20736:=ω;have ak:y*(m:Int)+x<=20736:=ω;clear q d E;go_wp2_with fail
    go_quiet (fail)
    go_wp2_with fail
    go_roundg (n-(k+1))
    case measure=>omega
    case rel=>exact⟨k+1,ω,rfl,by go_num,by rw[v.o],aj (K.o.alloc (by have:=K.o.size;omega) _) _⟩
   have V:k=n:=ω;subst V;go_wp2_with fail
   go_ret2
   rw[HV.o,I.o];exact⟨rfl,ad X.o K.o⟩
 have HV:Hid (numV D n L=0):=by show _=_;unfold numV;rw[if_neg r]
 have I:Hid (errV (placeErr D n L)=.iface 71 (.int .i64 (placeErr D n L))):=ac r;rw[ac r]at h;clear r;generalize placeErr D n L=c at h I;generalize L.length=m at h
 go_enter func64,ntmps64
 go_wp2_with fail;refine h.mono ?_;rintro e w1⟨rfl,a⟩;go_wp2_with fail
 go_ret2
 rw[HV.o,I.o];exact⟨rfl,ad u.o a⟩
def KR(w:World)(A:Option Addr)(c n:Nat)(M:Nat->Mem):Prop:=n<=c/\(n=0\/∃b cs fr,A=some ⟨b,0,none⟩/\w.heap[b]?=some (.cells cs 64 fr)/\cI w b 0 n M)
theorem KR.toV{w:World}{A:Option Addr}{c n:Nat}{M:Nat->Mem}(h:KR w A c n M):dC w A c n M:=by
 obtain⟨d,a|⟨b,cs,fr,a,-,e⟩⟩:=h
 ·exact⟨d,Or.inl a⟩
 exact⟨d,Or.inr ⟨b,0,a,e⟩⟩
def cellsMb(M:Nat->Mem):Nat->List Value
 | 0=>[]
 |k+1=>cellsMb M k++[.string (M k).name,.int .i64 (M k).parent,.int .i64 (M k).sign,.string (M k).formula]
theorem cQ(M:Nat->Mem):∀k,(cellsMb M k).length=k*4
 | 0=>rfl
 |k+1=>by rw[cellsMb,List.length_append,cQ M k];simp;omega
theorem cF(M:Nat->Mem)(n:Nat):∀k,k<n->(cellsMb M n)[k*4]?=some (.string (M k).name)/\(cellsMb M n)[k*4+1]?=some (.int .i64 (M k).parent)/\(cellsMb M n)[k*4+2]?=some (.int .i64 (M k).sign)/\(cellsMb M n)[k*4+3]?=some (.string (M k).formula):=by
 induction n with
 |zero=>intro k h;omega
 |succ n ih =>
  intro k b;rw[cellsMb];have a:=cQ M n
  by_cases h:k=n
  ·subst h
   refine⟨?_,?_,?_,?_⟩ <;>rw[List.getElem?_append_right ω,a]
   ·rw[Nat.sub_self];rfl
   ·rw[show k*4+1-k*4=1 by omega];rfl
   ·rw[show k*4+2-k*4=2 by omega];rfl
   rw[show k*4+3-k*4=3 by omega];rfl
  have:=ih k ω
  refine⟨?_,?_,?_,?_⟩ <;>rw[List.getElem?_append_left ω]
  ·exact this.1
  ·exact this.2.1
  ·exact this.2.2.1
  exact this.2.2.2
theorem qB{w:World}{base n:Nat}{v:Value}{M:Nat->Mem}(h:w.ownsRow base 64 4 v n (cellsMb M n)):∃A c,v=.slice A n c/\KR w A c n M:=by
 rcases h.2 with⟨rfl,j⟩|⟨g,cap,b,rfl,r,a,l,p,q,m⟩
 ·subst j
  exact⟨none,0,rfl,zT,Or.inl rfl⟩
 refine⟨_,cap,rfl,l,Or.inr ⟨g,b,_,rfl,a,(zY a).1,fun k o=>?_⟩⟩
 obtain⟨d,e,f,i⟩:=cF M n k o;rw[←m,List.getElem?_take,if_pos ω,Array.getElem?_toList]at d e f i
 rw[Nat.zero_add];exact⟨by simp[World.cell?,a,d],by simp[World.cell?,a,e],by simp[World.cell?,a,f],by simp[World.cell?,a,i]⟩
def cellsDo(D:Nat->Dm)(A:Nat->Option Addr)(C:Nat->Nat):Nat->List Value
 | 0=>[]
 |k+1=>cellsDo D A C k++[.string (D k).name,.int .i64 (D k).solve,.slice (A k) (D k).n (C k)]
theorem cellsDo_len(D:Nat->Dm)(A:Nat->Option Addr)(C:Nat->Nat):∀k,(cellsDo D A C k).length=k*3
 | 0=>rfl
 |k+1=>by rw[cellsDo,List.length_append,cellsDo_len D A C k];simp;omega
theorem i7{D:Nat->Dm}{A A':Nat->Option Addr}{C C':Nat->Nat}:∀k,(∀i,i<k->A i=A' i/\C i=C' i)->cellsDo D A C k=cellsDo D A' C' k
 | 0,_=>rfl
 |k+1,h=>by rw[cellsDo,cellsDo,i7 k fun i a=>h i ω,(h k ω).1,(h k ω).2]
theorem du(D:Nat->Dm)(A:Nat->Option Addr)(C:Nat->Nat)(n:Nat):∀k,k<n->(cellsDo D A C n)[k*3]?=some (.string (D k).name)/\(cellsDo D A C n)[k*3+1]?=some (.int .i64 (D k).solve)/\(cellsDo D A C n)[k*3+2]?=some (.slice (A k) (D k).n (C k)):=by
 induction n with
 |zero=>intro k h;omega
 |succ n ih =>
  intro k b;rw[cellsDo];have a:=cellsDo_len D A C n
  by_cases h:k=n
  ·subst h
   refine⟨?_,?_,?_⟩ <;>rw[List.getElem?_append_right ω,a]
   ·rw[Nat.sub_self];rfl
   ·rw[show k*3+1-k*3=1 by omega];rfl
   rw[show k*3+2-k*3=2 by omega];rfl
  have:=ih k ω
  refine⟨?_,?_,?_⟩ <;>rw[List.getElem?_append_left ω]
  ·exact this.1
  ·exact this.2.1
  exact this.2.2
theorem wF{w:World}{base n:Nat}{v:Value}{D:Nat->Dm}{A:Nat->Option Addr}{C:Nat->Nat}(h:w.ownsRow base 67 3 v n (cellsDo D A C n))(o:∀j,j<n->KR w (A j) (C j) (D j).n (D j).mem):∃A0 cap,v=.slice A0 n cap/\aL w A0 cap n D A C:=by
 rcases h.2 with⟨rfl,i⟩|⟨g,cap,f,rfl,r,a,l,p,q,m⟩
 ·subst i
  exact⟨none,0,rfl,zT,Or.inl rfl⟩
 refine⟨_,cap,rfl,l,Or.inr ⟨g,0,rfl,(zY a).1,fun k b=>?_⟩⟩
 obtain⟨c,d,e⟩:=du D A C n k b;rw[←m,List.getElem?_take,if_pos ω,Array.getElem?_toList]at c d e
 rw[Nat.zero_add];exact⟨by simp[World.cell?,a,c],by simp[World.cell?,a,d],by simp[World.cell?,a,e],(o k b).toV⟩
def noC:Int×Int:=(0,0)
def bW:List (Int×Int)->List Value
 | []=>[]
 |c :: r=>.int .i64 c.1 :: .int .i64 c.2 :: bW r
theorem pP(L:List (Int×Int)):(bW L).length=L.length*2:=by
 induction L with
 |nil=>rfl
 |cons x r ih=>simp[bW,ih];omega
theorem cellsC_append(a b:List (Int×Int)):bW (a++b)=bW a++bW b:=by
 induction a with
 |nil=>rfl
 |cons x r ih=>simp[bW,ih]
theorem pQ(L:List (Int×Int)):∀v∈bW L,v.oneCell'=true:=by
 induction L with
 |nil=>intro v a;cases a
 |cons x r ih =>
  intro v a;simp only[bW,List.mem_cons]at a
  rcases a with rfl|rfl|a
  ·rfl
  ·rfl
  exact ih v a
theorem sL(L:List (Int×Int)):∀k,k<L.length->(bW L)[k*2]?=some (.int .i64 (L.getD k noC).1)/\(bW L)[k*2+1]?=some (.int .i64 (L.getD k noC).2):=by
 induction L with
 |nil=>intro k a;cases a
 |cons x r ih =>
  intro k a;cases k with
  |zero=>simp[bW]
  |succ k =>
   rw[show(k+1)*2=k*2+1+1 by omega]
   simp only[bW,List.getElem?_cons_succ,List.getD_cons_succ];exact ih k (by simpa using a)
def iu(w:World)(b o:Nat)(L:List (Int×Int)):Prop:=b<w.heap.size/\∀k,k<L.length->w.cell? ⟨b,o+k*2,none⟩=some (.int .i64 (L.getD k noC).1)/\w.cell? ⟨b,o+k*2+1,none⟩=some (.int .i64 (L.getD k noC).2)
theorem iu.later{w w':World}{b o:Nat}{L:List (Int×Int)}(h:iu w b o L)(a:Bl w w'):iu w' b o L :=
 ⟨zW h.1 a.size,fun k c=>⟨(a.cell (p:=⟨b,o+k*2,none⟩) h.1).trans (h.2 k c).1,(a.cell (p:=⟨b,o+k*2+1,none⟩) h.1).trans (h.2 k c).2⟩⟩
theorem iu.cells{w:World}{b o:Nat}{L:List (Int×Int)}(h:iu w b o L):∀j u,(bW L)[j]?=some u->w.cell? ⟨b,o+j,none⟩=some u:=by
 intro j u a;have c:j<(bW L).length:=(List.getElem?_eq_some_iff.1 a).1;rw[pP]at c;have d:j / 2<L.length:=ω;obtain⟨f,g⟩:=sL L _ d;obtain⟨c1,c2⟩:=h.2 _ d
 rcases Nat.mod_two_eq_zero_or_one j with hm|hm
 ·have e:j=j / 2*2:=ω;rw[e]at a|-;rw[f]at a;rw[c1];exact a
 have e:j=j / 2*2+1:=ω;rw[e]at a|-;rw[g]at a;rw[←Nat.add_assoc,c2];exact a
def eP(w:World)(A:Option Addr)(cap:Nat)(L:List (Int×Int)):Prop:=L.length<=cap/\cap<=9223372036854775807/\(L=[]\/∃b o,A=some ⟨b,o,none⟩/\iu w b o L)
theorem eP.later{w w':World}{A:Option Addr}{cap:Nat}{L:List (Int×Int)}(h:eP w A cap L)(f:Bl w w'):eP w' A cap L:=by
 obtain⟨d,c,a|⟨b,o,a,e⟩⟩:=h
 ·exact⟨d,c,Or.inl a⟩
 exact⟨d,c,Or.inr ⟨b,o,a,e.later f⟩⟩
theorem eP.nil(w:World)(A:Option Addr)(cap:Nat)(h:cap<=9223372036854775807):eP w A cap []:=⟨zU,h,Or.inl rfl⟩
def cB(w:World)(g:Nat)(L:List (Int×Int)):Prop := ∃cur:Array Value,w.heap[g]?=some (.cells cur 61 (0,0))/\∀k,k<L.length->cur[k*2]?=some (.int .i64 (L.getD k noC).1)/\cur[k*2+1]?=some (.int .i64 (L.getD k noC).2)
section
variable {w w':World} {g:Nat} {L:List (Int×Int)}
theorem cB.lt(h:cB w g L):g<w.heap.size:=by
 obtain⟨a,b,_⟩:=h;exact(zY b).1
theorem cB.same(h:cB w g L)(d:w'.heap[g]?=w.heap[g]?):cB w' g L:=by
 obtain⟨a,b,c⟩:=h;exact⟨a,d.trans b,c⟩
theorem cB.later(h:cB w g L)(a:Bl w w'):cB w' g L:=h.same (a.block g h.lt)
theorem cB.at(h:cB w g L){k:Nat}(f:k<L.length):w.cell? ⟨g,k*2,none⟩=some (.int .i64 (L.getD k noC).1)/\w.cell? ⟨g,k*2+1,none⟩=some (.int .i64 (L.getD k noC).2):=by
 obtain⟨b,a,c⟩:=h;obtain⟨d,e⟩:=c k f;exact⟨by simp[World.cell?,a,d],by simp[World.cell?,a,e]⟩
theorem cB.frozen(h:cB w g L)(j:Nat):w.frozen? ⟨g,j,none⟩=false:=by
 obtain⟨a,b,_⟩:=h;exact Lib.frozen_of_heap b j
theorem cB.celAt(h:cB w g L):iu w g 0 L:=⟨h.lt,fun k a=>by rw[Nat.zero_add];exact h.at a⟩
theorem cB.set(h:cB w g L){x:Nat}(p:x<L.length)(a b:Int):cB ((w.setCell ⟨g,x*2,none⟩ (.int .i64 a)).setCell ⟨g,x*2+1,none⟩ (.int .i64 b)) g (L.set x (a,b)):=by
 obtain⟨d,j,f⟩:=h;refine⟨(d.setIfInBounds (x*2) (.int .i64 a)).setIfInBounds (x*2+1) (.int .i64 b),by simp[World.setCell,Array.getElem?_modify,j],fun k c=>?_⟩
 rw[List.length_set]at c;obtain⟨l,m⟩:=f k c;obtain⟨n,o⟩:=f x p;have q:=(zY n).1;have r:=(zY o).1
 by_cases e:k=x
 ·subst e
  constructor
  ·rw[Array.getElem?_setIfInBounds_ne ω,Array.getElem?_setIfInBounds_self_of_lt q]
   simp[List.getD,c]
  rw[Array.getElem?_setIfInBounds_self_of_lt (by simpa using r)]
  simp[List.getD,c]
 have i:(L.set x (a,b)).getD k noC=L.getD k noC:=by simp[List.getD,List.getElem?_set_ne (fun h=>e h.symm)]
 rw[i]
 constructor
 ·rw[Array.getElem?_setIfInBounds_ne ω,Array.getElem?_setIfInBounds_ne ω];exact l
 rw[Array.getElem?_setIfInBounds_ne ω,Array.getElem?_setIfInBounds_ne ω];exact m
theorem vQ{base:Nat}{v:Value}(h:w.ownsRow base 61 2 v L.length (bW L))(p:0<L.length):∃g c,v=.slice (some ⟨g,0,none⟩) L.length c/\base<=g/\L.length<=c/\c<=9223372036854775807/\cB w g L:=by
 rcases h.2 with⟨_,n⟩|⟨g,cap,a,rfl,j,l,e,f,o,i⟩
 ·omega
 refine⟨g,cap,rfl,j,e,by unfold maxLen at f;omega,a,l,fun k m=>?_⟩
 obtain⟨b,d⟩:=sL L k m;rw[←i,List.getElem?_take,if_pos ω,Array.getElem?_toList]at b d
 exact⟨b,d⟩
end
theorem infoCe:(prog.info? 61).map (fun i=>(i.zero,i.size,i.bytes))=some (some (.agg #[.int .i64 0,.int .i64 0]),2,16):=by kernel_rfl
def gE(L:List (Int×Int))(k:Nat):Bool := !(good (L.getD k noC).1 (L.getD k noC).2)
def stepTo(D:Nat->Dm)(dim:Nat):Nat->Nat
 | 0=>1
 |t+1=>stepTo D dim t*(D (dim+1+t)).n
def cE(D:Nat->Dm)(n dim:Nat):Nat:=stepTo D dim (n-1-dim)
theorem stepTo_front(D:Nat->Dm)(dim:Nat):∀t,stepTo D dim (t+1)=(D (dim+1)).n*stepTo D (dim+1) t
 | 0=>by simp[stepTo]
 |t+1=>by
  rw[stepTo,stepTo_front D dim t,stepTo,Nat.mul_assoc,show dim+1+(t+1)=dim+1+1+t by omega]
theorem tJ(D:Nat->Dm)(m x:Nat):∀r,r<m->restAt D m x r=x / stepTo D (m-1-r) r
 | 0,_=>by simp[restAt,stepTo]
 |r+1,h=>by
  rw[restAt,tJ D m x r ω,Nat.div_div_eq_div_mul,stepTo_front,show m-1-(r+1)+1=m-1-r by omega,Nat.mul_comm]
theorem jc{D:Nat->Dm}{n x k:Nat}(a:k<n):cD D n x k=x / cE D n k % (D k).n:=by
 unfold cD cE;rw[tJ D n x _ ω,show n-1-(n-1-k)=k by omega]
theorem kq{D:Nat->Dm}{n:Nat}(h:∀j,j<n->1<=(D j).n):1<=prodN D n:=by
 induction n with
 |zero=>exact zT
 |succ n ih =>
  have a:=ih fun j c=>h j ω
  have b:=h n ω
  rw[prodN];exact Nat.mul_le_mul a b
theorem rK{D:Nat->Dm}{dim:Nat}:∀t,(∀j,j<dim+1+t->1<=(D j).n)->1<=stepTo D dim t
 | 0,_=>zT
 |t+1,h=>by
  rw[stepTo];exact Nat.mul_le_mul (rK t fun j a=>h j ω) (h (dim+1+t) ω)
theorem iW{D:Nat->Dm}{n dim:Nat}(h:∀j,j<n->1<=(D j).n)(a:dim<n):1<=cE D n dim:=rK _ fun j b=>h j ω
def bE(M:Nat->Mem)(at':Int->Int×Int)(c:Int×Int)(k:Int):Int×Int:=if(M k.toNat).sign=1 then yd c.1 c.2 (at' k).1 (at' k).2 else if(M k.toNat).sign = -1 then qD c.1 c.2 (at' k).1 (at' k).2 else c
def partsV(M:Nat->Mem)(at':Int->Int×Int)(L:List Int):Int×Int:=L.foldl (bE M at') (0,0)
def dq(c:Int×Int):Prop:=good c.1 c.2=true
theorem qm(x:Int):dq (iI x):=by
 unfold dq iI good
 split
 ·rename_i h;exact decide_eq_true (Or.inl ⟨rfl,h⟩)
 exact decide_eq_true (Or.inr ⟨Or.inr rfl,rfl⟩)
theorem ti(b:Bool)(a c:Int){r:Int×Int}(h:dq r):dq (jS b a c r):=by
 unfold jS
 split
 ·exact decide_eq_true (Or.inr ⟨Or.inr rfl,rfl⟩)
 split
 ·exact decide_eq_true (Or.inr ⟨Or.inl rfl,rfl⟩)
 exact h
theorem ki:dq (0,0):=decide_eq_true (Or.inr ⟨Or.inl rfl,rfl⟩)
theorem EW(M:Nat->Mem)(at':Int->Int×Int){c:Int×Int}(h:dq c)(k:Int):dq (bE M at' c k):=by
 unfold bE
 split
 ·exact ti _ _ _ (qm _)
 split
 ·exact ti _ _ _ (qm _)
 exact h
theorem mY(M:Nat->Mem)(at':Int->Int×Int):∀(L:List Int) (c:Int×Int),dq c->dq (L.foldl (bE M at') c)
 | [],_,h=>h
 |k :: r,_,h=>mY M at' r _ (EW M at' h k)
theorem Ah(M:Nat->Mem)(at':Int->Int×Int)(L:List Int):dq (partsV M at' L):=mY M at' L _ ki
theorem BB{D:Nat->Dm}{n dim m x j:Nat}(p:∀i,i<n->1<=(D i).n)(g:dim<n)(z:x<prodN D n)(w:x / cE D n dim % (D dim).n=m)(v:j<(D dim).n):
  ∃y:Nat,(x:Int)+((j:Int)-(m:Int))*(cE D n dim:Int)=y/\y<prodN D n/\y / cE D n dim % (D dim).n=j/\∀i,i<n->i≠dim->cD D n y i=cD D n x i:=by
 have B:=iW p g;have u:=p dim g;have l:∀i,i<n->cD D n x i<(D i).n:=fun i d=>wz (p i d)
 obtain⟨P,f⟩:∃P:Nat->Nat,P=fun i=>if i=dim then j else cD D n x i:=⟨_,rfl⟩
 have b:∀i,i<n->P i<(D i).n:=fun i d=>by
  rw[f];simp only
  split
  ·rename_i h;rw[h];exact v
  exact l i d
 have A:=xJ n b;have c:∀i,i<n->cD D n (numTo D P n) i=P i:=fun i d=>sX b d
 refine⟨numTo D P n,?_,A,?_,fun i d o=>?_⟩
 ·have t:∀k,k<=n->(numTo D P k:Int)=(numTo D (cD D n x) k:Int)+(if dim<k then((j:Int)-(m:Int))*(stepTo D dim (k-1-dim):Int)else 0):=by
   intro k
   induction k with
   |zero=>intro _;simp[numTo]
   |succ k ih =>
    intro C;rw[numTo,numTo];have a:=ih ω
    rcases Nat.lt_trichotomy dim k with h|h|h
    ·rw[if_pos h]at a
     rw[if_pos ω]
     have e:P k=cD D n x k:=by rw[f];simp only;rw[if_neg ω]
     rw[e,show k+1-1-dim=(k-1-dim)+1 by omega,stepTo,show dim+1+(k-1-dim)=k by omega]
     push_cast
     rw[a,Int.add_mul,Int.mul_assoc]
     omega
    ·subst h
     rw[if_neg ω,Int.add_zero]at a
     rw[if_pos ω]
     have e:P dim=j:=by rw[f];simp
     have s:cD D n x dim=m:=by rw[jc g,w]
     rw[e,s,show dim+1-1-dim=0 by omega,stepTo]
     push_cast
     rw[a]
     omega
    rw[if_neg ω,Int.add_zero]at a
    rw[if_neg ω]
    have e:P k=cD D n x k:=by rw[f];simp only;rw[if_neg ω]
    rw[e]
    push_cast
    rw[a]
    omega
  have q:=t n zT;rw[if_pos g,xK z]at q;rw[q]
  rfl
 ·have r:=c dim g
  rw[jc g]at r;rw[r,f]
  simp
 rw[c i d,f]
 simp[o]
theorem pO(b o c:Nat)(L:List (Int×Int))(w:World)(q:0<L.length)(G:L.length<=3000)(x:iu w b o L):Calls prog 31 #[.slice (some ⟨b,o,none⟩) L.length c] w fun e w'=>(∃g d,e=.returned (.slice (some ⟨g,0,none⟩) L.length d)/\w.heap.size<=g/\L.length<=d/\d<=9223372036854775807/\cB w' g L)/\Bl w w':=by
 have H:∀(w:World) (a:Option Addr) (n c n' d:Nat),(binOp .eql 35 (.slice a n c) (.slice none n' d)).run prog w=.ok (.bool a.isNone) w:=fun w a n c n' d=>Lib.run_eql_slice_nil w _ _ a n c n' d underlying35
 obtain⟨i0,m,r,s,t⟩:=info_parts infoCe;have A:Hid (∀j u,(bW L)[j]?=some u->w.cell? ((⟨b,o,none⟩:Addr).add j)=some u):=fun j u p=>by rw[aW];exact x.cells j u p
 have B:Hid (∀(w':World) (v:Value),w'.ownsRow w.heap.size 61 2 v L.length (bW L)->∃g d,v=.slice (some ⟨g,0,none⟩) L.length d/\w.heap.size<=g/\L.length<=d/\d<=9223372036854775807/\cB w' g L):=fun w' v h=>vQ h q
 have F:(bW L).length=L.length*2:=pP L;have D:=pQ L;clear x
 go_enter func31,ntmps31
 go_wp2_with (at_builtin;refine wpList_append_own _ rfl _ _ 35 rfl w.heap.size 61 i0 (.agg #[.int .i64 0,.int .i64 0]) 2 16 underlying35 m r s t rfl (by decide) _ _ _ rfl (World.ownsRow_made w #[] 0 zT zU σ) ⟨b,o,none⟩ L.length c (bW L) rfl ?qc1 ?qc2 ?qc3 ?qc4 ?qc5 ?qc6 ?_)
 case qc1=>exact F
 case qc2=>exact fun j u p=>Lib.cell?_alloc_some _ (A.o j u p)
 case qc3=>exact D
 case qc4=>simp only[maxLen];omega
 case qc5=>omega
 case qc6=>simp
 intro v' w1 i f l;obtain⟨g,d,rfl,y⟩:=B.o _ _ i;have C:=aa y;have z:Hid (Bl w w1):=((Below.refl _ w).alloc zT _).grown f σ (by intro k E;simp[Value.ownBlock]at E;omega)
 clear i f l y;go_wp2_with fail;go_ret;exact⟨⟨g,d,rfl,C.o⟩,z.o⟩
def Gu(w:World)(u v:Value):World:=(w.alloc (.cells #[u] 24)).alloc (.cells #[v] 24)
theorem MI(w:World)(u v:Value):(Gu w u v).heap[w.heap.size]?=some (.cells #[u] 24 (0,0))/\(Gu w u v).heap[w.heap.size+1]?=some (.cells #[v] 24 (0,0)):=by
 have a:(w.alloc (.cells #[u] 24)).heap[w.heap.size]?=some (.cells #[u] 24 (0,0)):=heap_alloc_new ..;have b:(w.alloc (.cells #[u] 24)).heap.size=w.heap.size+1:=by simp
 refine⟨(Below.heap_alloc _ _ _ ω).trans a,?_⟩
 rw[←b];exact heap_alloc_new ..
theorem CH(w:World)(u v:Value):Bl w (Gu w u v):=by unfold Gu;go_grown
def tU(w:World)(u0 u1 u2 v0 v1 v2:Value):World:=(w.alloc (.cells #[u0,u1,u2] 67)).alloc (.cells #[v0,v1,v2] 67)
theorem MH(w:World)(u0 u1 u2 v0 v1 v2:Value):(tU w u0 u1 u2 v0 v1 v2).heap[w.heap.size]?=some (.cells #[u0,u1,u2] 67 (0,0))/\(tU w u0 u1 u2 v0 v1 v2).heap[w.heap.size+1]?=some (.cells #[v0,v1,v2] 67 (0,0)):=by
 have a:(w.alloc (.cells #[u0,u1,u2] 67)).heap[w.heap.size]?=some (.cells #[u0,u1,u2] 67 (0,0)):=heap_alloc_new ..;have b:(w.alloc (.cells #[u0,u1,u2] 67)).heap.size=w.heap.size+1:=by simp
 refine⟨(Below.heap_alloc _ _ _ ω).trans a,?_⟩
 rw[←b];exact heap_alloc_new ..
theorem CG(w:World)(u0 u1 u2 v0 v1 v2:Value):Bl w (tU w u0 u1 u2 v0 v1 v2):=by unfold tU;go_grown
theorem yB(A0 B0:Option Addr)(u v n:Nat)(D:Nat->Dm)(A:Nat->Option Addr)(C:Nat->Nat)(A':Nat->Option Addr)(C':Nat->Nat)(w:World)(hn:n<=4)(X:∀i,i<n->(D i).n<=12)(Q:aL w A0 u n D A C)(R:aL w B0 v n D A' C'):
  Rt 15 #[.agg #[.slice A0 n u],.agg #[.slice B0 n v]] w (.bool true):=by
 have l:=CH w (.slice A0 n u) (.slice B0 n v);obtain⟨b1,b2⟩:=MI w (.slice A0 n u) (.slice B0 n v);obtain⟨W,U⟩:=ar (Gu w (.slice A0 n u) (.slice B0 n v));rw[U]at l b1 b2;unfold Gu at U;have Y:=(zY b2).1;have P:Hid (∀w',Bl W w'->w'.cell? ⟨w.heap.size,0,none⟩=some (.slice A0 n u)/\w'.cell? ⟨w.heap.size+1,0,none⟩=some (.slice B0 n v)/\w.heap.size+1<w'.heap.size):=fun w' h =>
  ⟨(Lib.cell_of_heap ((h.block _ ω).trans b1) 0).trans rfl,(Lib.cell_of_heap ((h.block _ Y).trans b2) 0).trans rfl,zW Y h.size⟩
 have HA:=aa (Q.later l);have HB:=aa (R.later l);have HD:=aa X;have F:=aa l;obtain⟨k0,k1,k2⟩:=P.o W zS;have ai:(n:Int)<=4:=ω;have ak:((n:Int) !=(n:Int))=false:=by simp
 have N:w.heap.size<W.heap.size:=ω;clear Q R X l b1 b2
 go_enter func15,ntmps15
 go_wp2_with fail
 go_loopg [5] n (fun g s5 wr =>∃k:Nat,k<=n/\g=n-k/\s5=.int .i64 k/\Hid (Bl W wr))
 case atStart=>exact⟨0,zU,rfl,rfl,aa zS⟩
 case round =>
  obtain⟨k,hk,rfl,rfl,e⟩:=hrel;obtain⟨wo,rfl⟩:∃wo:World,wo=wr:=⟨_,rfl⟩;obtain⟨k0,k1,k2⟩:=P.o wo e.o;have N:w.heap.size<wo.heap.size:=ω;by_cases t:k<n
  ·have af:(k:Int)<(n:Int):=ω;obtain⟨-,J|⟨ba,oa,rfl,r⟩⟩:=HA.o.later e.o
   ·omega
   obtain⟨-,J|⟨bb,ob,rfl,s⟩⟩:=HB.o.later e.o
   ·omega
   have ab:=r.1;have ac:=s.1;obtain⟨a0,a1,a2,o⟩:=r.2 k t;obtain⟨c0,c1,c2,p⟩:=s.2 k t;have E:=HD.o k t;have b:=aa o;have c:=aa p;obtain⟨M,S⟩:=ar ((D k).mem);rw[S]at b c;have a:=CG wo (.string (D k).name) (.int .i64 (D k).solve) (.slice (A k) (D k).n (C k)) (.string (D k).name) (.int .i64 (D k).solve) (.slice (A' k) (D k).n (C' k));obtain⟨q,f⟩:=MH wo (.string (D k).name) (.int .i64 (D k).solve) (.slice (A k) (D k).n (C k)) (.string (D k).name) (.int .i64 (D k).solve) (.slice (A' k) (D k).n (C' k));generalize (D k).name=nm at a0 c0 a q f;generalize (D k).solve=sv at a1 c1 a q f;generalize (D k).n=m at a2 c2 E b c a q f;generalize A k=Ak at a2 b a q f;generalize C k=Ck at a2 b a q f;generalize A' k=Al at c2 c a q f;generalize C' k=Cl at c2 c a q f;obtain⟨V,T⟩:=ar (tU wo (.string nm) (.int .i64 sv) (.slice Ak m Ck) (.string nm) (.int .i64 sv) (.slice Al m Cl));rw[T]at a q f;unfold tU at T;have G:=aa (ad e.o a);have Z:=(zY f).1;have x:Hid (∀w',Bl V w'->w'.cell? ⟨wo.heap.size,0,none⟩=some (.string nm)/\w'.cell? ⟨wo.heap.size,1,none⟩=some (.int .i64 sv)/\w'.cell? ⟨wo.heap.size,2,none⟩=some (.slice Ak m Ck)/\w'.cell? ⟨wo.heap.size+1,0,none⟩=some (.string nm)/\w'.cell? ⟨wo.heap.size+1,1,none⟩=some (.int .i64 sv)/\w'.cell? ⟨wo.heap.size+1,2,none⟩=some (.slice Al m Cl)/\wo.heap.size+1<w'.heap.size):=fun w' h=>by
    have H:=(h.block _ ω).trans q
    have I:=(h.block _ Z).trans f;exact⟨(Lib.cell_of_heap H 0).trans rfl,(Lib.cell_of_heap H 1).trans rfl,(Lib.cell_of_heap H 2).trans rfl,(Lib.cell_of_heap I 0).trans rfl,(Lib.cell_of_heap I 1).trans rfl,(Lib.cell_of_heap I 2).trans rfl,zW Z h.size⟩
   have y:=aa (b.o.later a);have z:=aa (c.o.later a);obtain⟨v0,v1,v2,v3,v4,v5,v6⟩:=x.o V zS;have al:(sv !=sv)=false:=by simp
   have ah:((m:Int) !=(m:Int))=false:=by simp
   have ag:(m:Int)<=12:=ω;have O:wo.heap.size<V.heap.size:=ω;clear S o p r s a q f b c;go_wp2_with fail
   go_loopg [8] m (fun g s8 wr =>∃j:Nat,j<=m/\g=m-j/\s8=.int .i64 j/\Hid (Bl V wr))
   case atStart=>exact⟨0,zU,rfl,rfl,aa zS⟩
   case round =>
    obtain⟨j,hj,rfl,rfl,d⟩:=hrel;obtain⟨v0,v1,v2,v3,v4,v5,v6⟩:=x.o wr d.o;have O:wo.heap.size<wr.heap.size:=ω;by_cases B:j<m
    ·have ae:(j:Int)<(m:Int):=ω;obtain⟨-,J|⟨bm,om,rfl,o⟩⟩:=y.o.later d.o
     ·omega
     obtain⟨-,J|⟨bn,am,rfl,p⟩⟩:=z.o.later d.o
     ·omega
     obtain⟨x0,x1,x2,x3⟩:=o.2 j B;obtain⟨y0,y1,y2,y3⟩:=p.2 j B;clear o p;go_wp2_with fail
     first|(go_quiet (fail);go_wp2_with fail)|skip
     go_roundg (m-(j+1))
     case measure=>omega
     case rel=>exact⟨j+1,ω,rfl,by go_num,aa (aj d.o _)⟩
    have K:j=m:=ω;subst K;go_wp2_with fail
    go_roundg (n-(k+1))
    case measure=>omega
    case rel=>exact⟨k+1,ω,rfl,by go_num,aa (ad G.o d.o)⟩
  have L:k=n:=ω;subst L;go_wp2_with fail;go_ret;exact⟨rfl,ad F.o e.o⟩
end Go.Proofs.YtjfampgnhccodaaGreatDoor
