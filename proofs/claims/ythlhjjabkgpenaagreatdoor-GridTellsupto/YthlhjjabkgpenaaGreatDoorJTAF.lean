/- What places of package -/
import Derived.Deep.QuietTactic
import Derived.LaidEql
import Derived.Stop.Asserts
import Derived.RowKitTokens
import Derived.Test.YthlhjjabkgpenaaGreatDoorJTAE
namespace Go.Proofs.YthlhjjabkgpenaaGreatDoor
open ChangeShapes WideShapes ChangeAt RowKit Extern.Stop Stop Extern
set_option maxRecDepth 99999
set_option maxHeartbeats 0
def IS (fn q r:Nat) (w:World) (n:Nat) (p:Nat→Bool):Prop := ∀ (i:Nat) (w':World),i<n→Bl w w'→Calls Tryz.prog fn #[.int .i64 i,.pointer (some ⟨q,0,none⟩),.pointer (some ⟨r,0,none⟩)] w' fun e w''=>e=.returned (.bool (p i))∧Bl w' w''
theorem vV (A:Option Addr) (cap:Nat) (L:List Int) (i:Int) (w:World) (E:L.length≤12) (z:bU w A cap L):Rt 199 #[.slice A L.length cap,.int .i64 i] w (.int .i64 (findFrom (fun j=>L.getD j 0 == i) L.length 0)):=by
 obtain ⟨C,y | ⟨b,rfl,B,c⟩⟩:=z
 ·subst y
  simp only [List.length_nil]
  go_enter Tryz.func199,Tryz.ntmps199
  go_wp2_with fail;refine wp_loop_rounds 1 ?_;rw [rounds_succ];go_wp2_with fail;go_ret;exact ⟨rfl,zS⟩
 have t:=aa c;obtain ⟨p,s⟩:∃ p:Nat→Bool,p=fun j=>L.getD j 0 == i:=⟨_,rfl⟩
 have v:Hid (∀ j,p j=(L.getD j 0 == i)):=fun j=>by rw [s]
 rw [←s];generalize hnn:L.length=n at E C t;clear c s hnn
 go_enter Tryz.func199,Tryz.ntmps199
 go_wp2_with fail
 go_loopg [8] n (fun g s8 wr => ∃ (k:Nat),k≤n∧g=n-k∧s8=.int .i64 k∧findFrom p (n-k) k=findFrom p n 0∧wr=w)
 case atStart=>exact ⟨0,zU,rfl,rfl,rfl,rfl⟩
 case round =>
  obtain ⟨k,H,rfl,rfl,u,rfl⟩:=hrel;have f:=aa u;clear u
  by_cases r:k<n
  ·have D:(k:Int)<(n:Int):=by omega
   have o:=t.out k r;have e:n-k=(n-(k+1))+1:=by omega
   have F:(n:Int)≤12:=by omega
   have a:=v.out k;have d:=aa e;generalize L.getD k 0=x at o a;clear e;cases hb:p k
   ·have l:=aa hb
    rw [hb] at a;have G:(i == x)=false:=by
     have m:x≠i:=by simpa using a.symm
     simpa using fun h:i=x=>m h.symm
    clear hb a;go_wp2_with fail
    go_roundg (n-(k+1))
    case measure=>omega
    case rel=>exact ⟨k+1,by omega,rfl,by go_num,by rw [←f.out,d.out,aU _ l.out],rfl⟩
   have l:=aa hb;rw [hb] at a;have G:(i == x)=true:=by
    have m:x=i:=by simpa using a.symm
    simpa using m.symm
   clear hb a;go_wp2_with fail;go_ret;exact ⟨by rw [←f.out,d.out,aW _ l.out];rfl,zS⟩
  have q:k=n:=by omega
  subst q;go_wp2_with fail;go_ret;exact ⟨by rw [←f.out,Nat.sub_self];rfl,zS⟩
theorem jI (A:Option Addr) (cap:Nat) (L:List Int) (i:Int) (w:World) (d:L.length≤12) (c:bU w A cap L):Rt 164 #[.slice A L.length cap,.int .i64 i] w (.bool (FJ L i)):=by
 have h:=vV A cap L i w d c;have b:Hid (decide (0≤findFrom (fun j=>L.getD j 0 == i) L.length 0)=FJ L i):=F0 L i
 generalize findFrom (fun j=>L.getD j 0 == i) L.length 0=f at h b
 generalize L.length=n at h;clear c d
 go_enter Tryz.func164,Tryz.ntmps164
 go_wp2_with fail;refine h.mono ?_;rintro e w1 ⟨rfl,a⟩;go_wp2_with fail;go_ret;exact ⟨by rw [←b.out];rfl,a⟩
theorem iF {w:World} {A:Option Addr} {cap:Nat} {L:List Int} (h:bU w A cap L):aO w A cap L:=by
 obtain ⟨c,a | ⟨b,a,d,e⟩⟩:=h
 ·exact ⟨c,Or.inl a⟩
 exact ⟨c,Or.inr ⟨b,0,a,d,fun j f=>by rw [Nat.zero_add];exact e j f⟩⟩
theorem qm (F:Nat) (cap:Array Value) (p:Int→Bool) (E:∀ (args:Array Value) (w:World),(callFunc F args).run Tryz.prog w=.ok (.enter F args) w) (A:Option Addr) (c:Nat) (L:List Int) (w:World) (O:L.length≤1048576) (K:aO w A c L)
  (D:∀ (x:Int) (w':World),x∈L→Bl w w'→Calls Tryz.prog F (#[.int .i64 x] ++ cap) w' fun e w''=>e=.returned (.bool (p x))∧Bl w' w'') :
  Rt 102 #[.slice A L.length c,.func (.func F) #[] cap] w (.int .i64 (findFrom (fun j=>p (L.getD j 0)) L.length 0)):=by
 obtain ⟨M,J | ⟨b,o,rfl,y,d⟩⟩:=K
 ·subst J
  simp only [List.length_nil]
  go_enter Tryz.func102,Tryz.ntmps102
  go_wp2_with fail;refine wp_loop_rounds 1 ?_;rw [rounds_succ];go_wp2_with fail;go_ret;exact ⟨rfl,zS⟩
 have C:=aa d;have H:=aa D;obtain ⟨pj,l⟩:∃ pj:Nat→Bool,pj=fun j=>p (L.getD j 0):=⟨_,rfl⟩
 have I:Hid (∀ j,pj j=p (L.getD j 0)):=fun j=>by rw [l]
 rw [←l];obtain ⟨n,i⟩:=ax L.length;have t:=aa i;rw [i] at O M C ⊢;clear d l i D
 go_enter Tryz.func102,Tryz.ntmps102
 go_wp2_with fail
 go_loopg [8] n (fun g s8 wr => ∃ (k:Nat),k≤n∧g=n-k∧s8=.int .i64 k∧findFrom pj (n-k) k=findFrom pj n 0∧Bl w wr)
 case atStart=>exact ⟨0,zU,rfl,rfl,rfl,zS⟩
 case round =>
  obtain ⟨k,Q,rfl,rfl,G,f⟩:=hrel;have u:=aa G;have v:=aa f;clear G
  by_cases r:k<n
  ·have N:(k:Int)<(n:Int):=by omega
   have z:=aL f y (C.out k r);have P:(n:Int)≤1048576:=by omega
   have m:=I.out k;have q:Hid (n-k=(n-(k+1))+1):=by show _=_;omega
   have a:=H.out (L.getD k 0) wr (by rw [zZ,zX (by rw [t.out];exact r)];exact List.getElem_mem _) f
   rw [←m] at a;generalize L.getD k 0=x at z m a;clear f m;cases hb:pj k
   ·rw [hb] at a
    have s:=aa hb;clear hb;go_wp2_with fail;refine a.mono ?_;rintro e w1 ⟨rfl,h⟩;go_wp2_with fail
    go_roundg (n-(k+1))
    case measure=>omega
    case rel=>exact ⟨k+1,by omega,rfl,by go_num,by rw [←u.out,q.out,aU _ s.out],ae v.out h⟩
   rw [hb] at a;have s:=aa hb;clear hb;go_wp2_with fail;refine a.mono ?_;rintro e w1 ⟨rfl,h⟩;go_wp2_with fail;go_ret;exact ⟨by rw [←u.out,q.out,aW _ s.out];rfl,ae v.out h⟩
  have B:k=n:=by omega
  subst B;go_wp2_with fail;go_ret;exact ⟨by rw [←u.out,Nat.sub_self];rfl,v.out⟩
theorem nt (F:Nat) (cap:Array Value) (p:Int→Bool) (a:∀ (args:Array Value) (w:World),(callFunc F args).run Tryz.prog w=.ok (.enter F args) w) (A:Option Addr) (c:Nat) (L:List Int) (w:World) (g:L.length≤1048576) (f:aO w A c L)
  (d:∀ (x:Int) (w':World),x∈L→Bl w w'→Calls Tryz.prog F (#[.int .i64 x] ++ cap) w' fun e w''=>e=.returned (.bool (p x))∧Bl w' w'') :
  Rt 68 #[.slice A L.length c,.func (.func F) #[] cap] w (.bool (decide (0≤findFrom (fun j=>p (L.getD j 0)) L.length 0))):=by
 have h:=qm F cap p a A c L w g f d;generalize findFrom (fun j=>p (L.getD j 0)) L.length 0=r at *
 clear d f
 go_enter Tryz.func68,Tryz.ntmps68
 go_wp2_with fail;refine h.mono ?_;rintro e w1 ⟨rfl,b⟩;go_wp2_with fail;go_ret;exact ⟨rfl,b⟩
def wM (n:Nat) (i:Int):Bool:=decide (i<0) || decide ((n:Int)≤i)
theorem vm (i:Int) (A:Option Addr) (n cap q:Nat) (w:World) (h:w.cell? ⟨q,2,none⟩=some (.slice A n cap)):Rt 245 #[.int .i64 i,.pointer (some ⟨q,0,none⟩)] w (.bool (wM n i)):=by
 unfold wM
 by_cases a:i<0
 ·go_enter Tryz.func245,Tryz.ntmps245
  go_wp2;go_ret;exact ⟨by simp <;> omega,by go_grown⟩
 go_enter Tryz.func245,Tryz.ntmps245
 go_wp2;go_ret;exact ⟨by simp <;> omega,by go_grown⟩
theorem ns (A:Option Addr) (cap:Nat) (L:List Int) (Am:Option Addr) (nm b q:Nat) (w:World) (f:L.length≤2) (d:bU w A cap L) (e:q<w.heap.size) (a:w.cell? ⟨q,2,none⟩=some (.slice Am nm b)) :
  Rt 68 #[.slice A L.length cap,.func (.func 245) #[] #[.pointer (some ⟨q,0,none⟩)]] w (.bool (decide (0≤findFrom (fun j=>wM nm (L.getD j 0)) L.length 0))) :=
 nt 245 #[.pointer (some ⟨q,0,none⟩)] (wM nm) (fun args w=>by simp [callFunc,Tryz.func245];rfl) A cap L w (by omega) (iF d) fun x w' _ c=>vm x Am nm b q w' (aL c e a)
theorem pL {d:Dm} {L:List Int} (h:(au d).2=0):treeErr d L=if 0≤findFrom (fun j=>wM d.n (L.getD j 0)) L.length 0 then 1 else 0:=by
 unfold treeErr oJ;rw [if_neg (by simpa using h)];rfl
theorem pd (d:Dm) (A:Option Addr) (cap:Nat) (Ai:Option Addr) (q:Nat) (L:List Int) (w:World) (B:dP w A cap d.n d.mem) (I:L.length≤2) (z:bU w Ai q L):Rt 207 #[cA d A cap,.slice Ai L.length q] w (errV (treeErr d L)):=by
 have C:=aZ w d A cap 37;have k:=aM w d A cap 37;have y:=(dD w d A cap 37).2.2;have a:=jY d A cap (aI w d A cap 37) (B.later k);unfold cA at a ⊢;have o:=aa k;have u:=aa C;have D:=aa y;have F:=aa z;clear B C k y z
 by_cases h:(au d).2=0
 ·obtain ⟨v,G,H,-⟩:=aG h
  rw [h,v,errV_zero] at a;have E:=aa h;clear h v
  go_enter Tryz.func207,Tryz.ntmps207
  go_wp2_with fail;refine a.mono ?_;rintro e w1 ⟨rfl,b⟩;have r:Bl w w1:=ae o.out b;have J:w.heap.size<w1.heap.size:=by
   have:=b.size;rw [u.out] at this
   omega
  have x:w1.cell? ⟨w.heap.size,2,none⟩=some (.slice A d.n cap):=aL b (by show w.heap.size<_;rw [u.out];omega) D.out
  have g:=ns Ai q L A d.n cap w.heap.size w1 I (F.out.later r) J x;have p:Hid (treeErr d L=if 0≤findFrom (fun j=>wM d.n (L.getD j 0)) L.length 0 then 1 else 0):=pL E.out
  have s:=aa r;generalize findFrom (fun j=>wM d.n (L.getD j 0)) L.length 0=f at g p
  generalize L.length=n at g;clear b a x r
  by_cases m:0≤f
  ·rw [decide_eq_true m] at g
   have i:Hid (treeErr d L=1):=by show _=_;rw [p.out,if_pos m]
   clear m p;go_wp2_with fail;refine g.mono ?_;rintro e w2 ⟨rfl,l⟩;go_wp2_with fail;go_ret;exact ⟨by rw [i.out];rfl,ae s.out l⟩
  rw [decide_eq_false m] at g;have i:Hid (treeErr d L=0):=by show _=_;rw [p.out,if_neg m]
  clear m p;go_wp2_with fail;refine g.mono ?_;rintro e w2 ⟨rfl,l⟩;go_wp2_with fail;go_ret;exact ⟨by rw [i.out];rfl,ae s.out l⟩
 have t:Hid (errV (treeErr d L)=.iface 68 (.int .i64 (au d).2)):=by show _=_;rw [uX h,aj h]
 rw [aj h] at a;clear h;generalize (au d).2=c at a t
 go_enter Tryz.func207,Tryz.ntmps207
 go_wp2_with fail;refine a.mono ?_;rintro e w1 ⟨rfl,b⟩;go_wp2_with fail;go_ret;exact ⟨by rw [t.out];rfl,ae o.out b⟩
theorem Bx:dG 235:=fun args w=>by simp [callFunc,Tryz.func235];rfl
theorem wR (b o n cap k q r:Nat) (M:Nat→Mem) (i:Int) (w:World) (c:k<n) (g:n≤12) (a:b8 w b o n M) (h:w.cell? ⟨q,2,none⟩=some (.slice (some ⟨b,o,none⟩) n cap)) (j:w.cell? ⟨r,0,none⟩=some (.int .i64 i)) :
  Rt 235 #[.int .i64 k,.pointer (some ⟨q,0,none⟩),.pointer (some ⟨r,0,none⟩)] w (.bool (gW M i k)):=by
 obtain ⟨-,f,-,-⟩:=a.2 k c;have d:(k:Int)<(n:Int):=by omega
 have e:(n:Int)≤12:=by omega
 unfold gW;clear a
 go_enter Tryz.func235,Tryz.ntmps235
 go_wp2_with fail
 go_quiet (fail)
 go_wp2_with fail;go_ret;exact ⟨by simp,ac (zS) _⟩
def G9 (c:Int) (L:List Int):List Int:=if c=0 then L else []
theorem DS {c:Int} (h:c=0) (L:List Int):G9 c L=L:=by simp [G9,h]
theorem F8 {c:Int} (h:c≠0) (L:List Int):G9 c L=[]:=by simp [G9,h]
theorem pM {d:Dm} {L:List Int} (h:treeErr d L=0):(au d).2=0:=by
 unfold treeErr at h
 split at h
 ·rename_i h1;exact absurd h h1
 rename_i h1;simpa using h1
theorem xN {d:Dm} {i:Int} (h:treeErr d [i]=0):(au d).2=0∧∃ k:Nat,i=k∧k<d.n:=by
 have a:=pM h;rw [gt a] at h
 by_cases b:i<0∨(d.n:Int)≤i
 ·rw [if_pos b] at h;cases h
 exact ⟨a,i.toNat,by omega,by omega⟩
theorem tx {w:World} {i:Int} {T:Nat}:bU (gD w i T) (some ⟨w.heap.size,0,none⟩) 1 [i]:=by
 refine ⟨zT,Or.inr ⟨_,rfl,by rw [gf];omega,fun j b=>?_⟩⟩
 have a:j=0:=by simp at b;omega
 subst a;exact lA w i T
def mt (w:World) (d:Dm) (A:Option Addr) (cap:Nat) (i:Int) (T T':Nat):World:=gD (aI w d A cap T) i T'
theorem gS (w:World) (d:Dm) (A:Option Addr) (cap:Nat) (i:Int) (T T':Nat):(mt w d A cap i T T').heap.size=w.heap.size+2:=by unfold mt;rw [gf,aZ]
theorem oD (w:World) (d:Dm) (A:Option Addr) (cap:Nat) (i:Int) (T T':Nat):Bl w (mt w d A cap i T T'):=ae (aM w d A cap T) (dO _ i T')
theorem uq (w:World) (d:Dm) (A:Option Addr) (cap:Nat) (i:Int) (T T':Nat):(mt w d A cap i T T').cell? ⟨w.heap.size,2,none⟩=some (.slice A d.n cap) :=
 ((dO (aI w d A cap T) i T').cell (p:=⟨w.heap.size,2,none⟩) (by show w.heap.size<_;rw [aZ];omega)).trans (dD w d A cap T).2.2
theorem EJ (w:World) (d:Dm) (A:Option Addr) (cap:Nat) (i:Int) (T T':Nat):(mt w d A cap i T T').cell? ⟨w.heap.size+1,0,none⟩=some (.int .i64 i):=by
 unfold mt;rw [←aZ w d A cap T];exact lA _ i T'
theorem Bu (w:World) (d:Dm) (A:Option Addr) (cap:Nat) (i:Int) (T T':Nat):bU (mt w d A cap i T T') (some ⟨w.heap.size+1,0,none⟩) 1 [i]:=by
 unfold mt;rw [←aZ w d A cap T];exact tx
def ur (w:World) (d:Dm) (A:Option Addr) (cap:Nat) (i:Int) (T T':Nat):World:=gD (mt w d A cap i T T') i T'
theorem lB (w:World) (d:Dm) (A:Option Addr) (cap:Nat) (i:Int) (T T':Nat):(ur w d A cap i T T').heap.size=w.heap.size+3:=by unfold ur;rw [gf,gS]
theorem wO (w:World) (d:Dm) (A:Option Addr) (cap:Nat) (i:Int) (T T':Nat):Bl w (ur w d A cap i T T'):=ae (oD w d A cap i T T') (dO _ i T')
theorem EK (w:World) (d:Dm) (A:Option Addr) (cap:Nat) (i:Int) (T T':Nat):(ur w d A cap i T T').cell? ⟨w.heap.size,2,none⟩=some (.slice A d.n cap) :=
 ((dO (mt w d A cap i T T') i T').cell (p:=⟨w.heap.size,2,none⟩) (by show w.heap.size<_;rw [gS];omega)).trans (uq ..)
theorem EL (w:World) (d:Dm) (A:Option Addr) (cap:Nat) (i:Int) (T T':Nat):(ur w d A cap i T T').cell? ⟨w.heap.size+1,0,none⟩=some (.int .i64 i) :=
 ((dO (mt w d A cap i T T') i T').cell (p:=⟨w.heap.size+1,0,none⟩) (by show w.heap.size+1<_;rw [gS];omega)).trans (EJ ..)
theorem Bv (w:World) (d:Dm) (A:Option Addr) (cap:Nat) (i:Int) (T T':Nat):bU (ur w d A cap i T T') (some ⟨w.heap.size+2,0,none⟩) 1 [i]:=by
 unfold ur;rw [←gS w d A cap i T T'];exact tx
def rC (d:Dm) (i:Int):Bool:=decide (treeErr d [i]=0) && leafB d.mem d.n i.toNat
theorem qW (d:Dm) (A:Option Addr) (cap:Nat) (i:Int) (w:World) (r:dP w A cap d.n d.mem):Rt 169 #[cA d A cap,.int .i64 i] w (.tuple #[.bool (rC d i),errV (treeErr d [i])]):=by
 have h:=oD w d A cap i 37 3;have a:=pd d A cap _ 1 [i] (mt w d A cap i 37 3) (r.later h) (by simp) (Bu ..)
 have j:=aa h;have z:=aa r;unfold cA at a ⊢;simp only [List.length_singleton] at a;clear r h
 by_cases g:treeErr d [i]=0
 ·obtain ⟨x,k,rfl,B⟩:=xN g
  rw [g,errV_zero] at a;obtain ⟨-,-,t,-⟩:=aG x;have p:Hid (rC d (k:Int)=leafB d.mem d.n k):=by show _=_;simp [rC,g]
  have m:Hid (errV (treeErr d [(k:Int)])=.nilIface):=by show _=_;rw [g];rfl
  clear g x
  go_enter Tryz.func169,Tryz.ntmps169
  go_wp2_with fail;refine a.mono ?_;rintro e w1 ⟨rfl,f⟩;have q:Bl w w1:=ae j.out f;have D:w1.cell? ⟨w.heap.size,2,none⟩=some (.slice A d.n cap):=aL f (by show w.heap.size<_;rw [gS];omega) (uq ..)
  obtain ⟨v,C | ⟨b,o,rfl,l⟩⟩:=z.out.later q
  ·omega
  have u:=wf b o d.n cap k d.mem w1 t B l;have y:=aa q;clear f a l q;go_wp2_with fail;refine u.mono ?_;rintro e w2 ⟨rfl,s⟩;go_wp2_with fail
  go_ret2
  rw [p.out,m.out];exact ⟨rfl,ae y.out s⟩
 have p:Hid (rC d i=false):=by show _=_;simp [rC,g]
 have m:Hid (errV (treeErr d [i])=.iface 68 (.int .i64 (treeErr d [i]))):=aj g;rw [aj g] at a;clear g;generalize treeErr d [i]=c at a m
 go_enter Tryz.func169,Tryz.ntmps169
 go_wp2_with fail;refine a.mono ?_;rintro e w1 ⟨rfl,f⟩;go_wp2_with fail
 go_ret2
 rw [p.out,m.out];exact ⟨rfl,ae j.out f⟩
theorem m8 (j q r:Nat) (u:dG j) (A0:Option Addr) (n cap:Nat) (p:Nat→Bool) (w:World) (z:n≤4) (s:IS j q r w n p):Rt 66 #[.agg #[.slice A0 n cap],.func (.func j) #[] #[.pointer (some ⟨q,0,none⟩),.pointer (some ⟨r,0,none⟩)]] w (.bool (decide (0≤findFrom p n 0))):=by
 have t:=aa s;have x:(n:Int)≤4:=by omega
 clear s;unfold dG at u
 go_enter Tryz.func66,Tryz.ntmps66
 go_wp2_with fail
 go_loopg [5,9] n (fun g s5 s9 wr => ∃ (k:Nat),k≤n∧g=n-k∧s9=.int .i64 k∧findFrom p (n-k) k=findFrom p n 0∧Bl w wr)
 case atStart=>exact ⟨0,zU,rfl,rfl,rfl,by go_grown⟩
 case round =>
  obtain ⟨k,y,rfl,rfl,l,a⟩:=hrel;have f:=aa l;have i:=aa a
  by_cases o:k<n
  ·have v:(k:Int)<(n:Int):=by omega
   have d:Hid (n-k=(n-(k+1))+1):=by show _=_;omega
   have b:=t.out k wr o a;clear l a;cases hb:p k
   ·rw [hb] at b
    have h:=aa hb;clear hb;go_wp2_with fail;refine b.mono ?_;rintro e w1 ⟨rfl,c⟩;go_wp2_with fail
    go_roundg (n-(k+1))
    case measure=>omega
    case rel=>exact ⟨k+1,by omega,rfl,by go_num,by rw [←f.out,d.out,aU _ h.out],ae i.out c⟩
   rw [hb] at b;have h:=aa hb;clear hb;go_wp2_with fail;refine b.mono ?_;rintro e w1 ⟨rfl,c⟩;go_wp2_with fail;go_ret;exact ⟨by rw [←f.out,d.out,aW _ h.out,decide_eq_true (by omega)];rfl,ae i.out c⟩
  have m:k=n:=by omega
  subst m;clear l a;go_wp2_with fail;go_ret;exact ⟨by rw [←f.out,Nat.sub_self];rfl,i.out⟩
def jO (w:World) (A0:Option Addr) (n cap:Nat) (Ap:Option Addr) (m cp T T':Nat):World:=(aD w A0 n cap T).alloc (.cells #[.slice Ap m cp] T')
theorem dK (w:World) (A0:Option Addr) (n cap:Nat) (Ap:Option Addr) (m a T T':Nat):(jO w A0 n cap Ap m a T T').heap.size=w.heap.size+2:=by unfold jO;simp [aF]
theorem mc (w:World) (A0:Option Addr) (n cap:Nat) (Ap:Option Addr) (m a T T':Nat):Bl w (jO w A0 n cap Ap m a T T'):=by unfold jO aD;go_grown
theorem rQ (w:World) (A0:Option Addr) (n cap:Nat) (Ap:Option Addr) (m a T T':Nat):(jO w A0 n cap Ap m a T T').cell? ⟨w.heap.size,0,none⟩=some (.slice A0 n cap):=by
 unfold jO;rw [World.cell?_alloc_lt _ _ ⟨w.heap.size,0,none⟩ (by rw [aF];exact Nat.lt_succ_self _)]
 exact aR ..
theorem rR (w:World) (A0:Option Addr) (n cap:Nat) (Ap:Option Addr) (m a T T':Nat):(jO w A0 n cap Ap m a T T').cell? ⟨w.heap.size+1,0,none⟩=some (.slice Ap m a):=by
 unfold jO;rw [←aF w A0 n cap T]
 simp
theorem wS:dG 67:=fun args w=>by simp [callFunc,Tryz.func67];rfl
theorem ut (b o n cap k q r bp op d:Nat) (D:Nat→Dm) (A:Nat→Option Addr) (C:Nat→Nat) (x:Int) (w:World) (g:k<n) (s:n≤4) (f:(D k).n≤12) (c:eR w b o n D A C) (v:w.cell? ⟨bp,op+k,none⟩=some (.int .i64 x)) (t:w.cell? ⟨q,0,none⟩=some (.slice (some ⟨bp,op,none⟩) n d)) (u:w.cell? ⟨r,0,none⟩=some (.slice (some ⟨b,o,none⟩) n cap)) :
  Rt 67 #[.int .i64 k,.pointer (some ⟨q,0,none⟩),.pointer (some ⟨r,0,none⟩)] w (.bool (decide (x<0) || decide (((D k).n:Int)≤x))):=by
 obtain ⟨-,-,e,-⟩:=c.2 k g;have h:(k:Int)<(n:Int):=by omega
 have i:(n:Int)≤4:=by omega
 generalize (D k).n=m at e f;have p:(m:Int)≤12:=by omega
 clear c
 by_cases a:x<0
 ·rw [decide_eq_true a]
  go_enter Tryz.func67,Tryz.ntmps67
  go_wp2_with fail
  go_quiet (fail)
  go_wp2_with fail;go_ret;exact ⟨by simp,ac (zS) _⟩
 rw [decide_eq_false a];have j:0≤x:=by omega
 have l:decide (x<0)=false:=decide_eq_false a
 go_enter Tryz.func67,Tryz.ntmps67
 go_wp2_with fail
 go_quiet (fail)
 go_wp2_with fail;go_ret;exact ⟨by simp,ac (zS) _⟩
theorem kj (A0:Option Addr) (cap n:Nat) (D:Nat→Dm) (A:Nat→Option Addr) (C:Nat→Nat) (Ap:Option Addr) (r:Nat) (L:List Int) (w:World) (G:bd w A0 cap n D A C) (M:aO w Ap r L):Rt 25 #[.agg #[.slice A0 n cap],.slice Ap L.length r] w (errV (placeErr D n L)):=by
 have s:=mc w A0 n cap Ap L.length r 24 27;have h:=nh A0 cap n D A C (jO w A0 n cap Ap L.length r 24 27) (G.later s);have f:=aa s;have T:=aa G;have U:=aa M;clear G s M
 by_cases q:(ah D n).2.2=0
 ·obtain ⟨W,z,-,O⟩:=aw q
  have v:Hid (placeErr D n L=shapeErr D n L):=Hd q;rw [q,errV_zero] at h;have S:=aa O;have V:(n:Int)≤4:=by omega
  clear q O
  by_cases i:L.length=n
  ·have u:((L.length:Int) == (n:Int))=true:=by simp [i]
   have J:=aa i;obtain ⟨I,K | ⟨bp,op,rfl,H,g⟩⟩:=U.out
   ·rw [K] at i;simp at i;omega
   rw [i] at h f I u;rw [i];have R:Hid (∀ j,j<n→w.cell? ⟨bp,op+j,none⟩=some (.int .i64 (L.getD j 0))):=fun j F=>g j (by omega)
   clear i g
   go_enter Tryz.func25,Tryz.ntmps25
   go_wp2_with fail;refine h.mono ?_;rintro e w1 ⟨rfl,a⟩;have E:Bl w w1:=ae f.out a;have X:w.heap.size+1<w1.heap.size:=by have:=a.size;rw [dK] at this;omega
   have P:w1.cell? ⟨w.heap.size,0,none⟩=some (.slice A0 n cap):=aL a (by show w.heap.size<_;rw [dK];omega) (rQ ..)
   have Q:w1.cell? ⟨w.heap.size+1,0,none⟩=some (.slice (some ⟨bp,op,none⟩) n r):=aL a (by show w.heap.size+1<_;rw [dK];omega) (rR ..)
   obtain ⟨N,K | ⟨b,o,rfl,y⟩⟩:=T.out.later E
   ·omega
   have d:=m8 67 (w.heap.size+1) w.heap.size wS (some ⟨b,o,none⟩) n cap (jE D L) w1 z (fun j w' F k=>ut b o n cap j (w.heap.size+1) w.heap.size bp op r D A C (L.getD j 0) w' F z (S.out j F).2 (y.later k) (((ae E k).cell (p:=⟨bp,op+j,none⟩) H).trans (R.out j F)) (aL k X Q) (aL k (by show w.heap.size<_;omega) P))
   have B:=aa E;clear a h y E
   by_cases x:0≤findFrom (jE D L) n 0
   ·rw [decide_eq_true x] at d
    have l:Hid (placeErr D n L=1):=by show _=_;rw [v.out,K2 J.out x]
    clear x;go_wp2_with fail;refine d.mono ?_;rintro e w2 ⟨rfl,t⟩;go_wp2_with fail;go_ret;exact ⟨by rw [l.out];rfl,ae B.out t⟩
   rw [decide_eq_false x] at d;have l:Hid (placeErr D n L=0):=by show _=_;rw [v.out,K3 J.out x]
   clear x;go_wp2_with fail;refine d.mono ?_;rintro e w2 ⟨rfl,t⟩;go_wp2_with fail;go_ret;exact ⟨by rw [l.out];rfl,ae B.out t⟩
  have u:((L.length:Int) == (n:Int))=false:=by simp;omega
  have l:Hid (placeErr D n L=3):=by show _=_;rw [v.out,Lg i]
  generalize L.length=m at h u f;clear i
  go_enter Tryz.func25,Tryz.ntmps25
  go_wp2_with fail;refine h.mono ?_;rintro e w1 ⟨rfl,a⟩;have P:w1.cell? ⟨w.heap.size,0,none⟩=some (.slice A0 n cap):=aL a (by show w.heap.size<_;rw [dK];omega) (rQ ..)
  have Q:w1.cell? ⟨w.heap.size+1,0,none⟩=some (.slice Ap m r):=aL a (by show w.heap.size+1<_;rw [dK];omega) (rR ..)
  have B:=aa (ae f.out a);clear a h;go_wp2_with fail;go_ret;exact ⟨by rw [l.out];rfl,B.out⟩
 have l:Hid (placeErr D n L=(ah D n).2.2):=Lq q;have v:Hid (errV (ah D n).2.2=.iface 68 (.int .i64 (ah D n).2.2)):=aj q;rw [aj q] at h;clear q;generalize (ah D n).2.2=c at h v l;generalize L.length=m at h f
 go_enter Tryz.func25,Tryz.ntmps25
 go_wp2_with fail;refine h.mono ?_;rintro e w1 ⟨rfl,a⟩;go_wp2_with fail;go_ret;exact ⟨by rw [l.out,v.out];rfl,ae f.out a⟩
theorem mj (A0:Option Addr) (cap n:Nat) (D:Nat→Dm) (A:Nat→Option Addr) (C:Nat→Nat) (Ap:Option Addr) (N:Nat) (L:List Int) (w:World) (Q:bd w A0 cap n D A C) (R:aO w Ap N L):Rt 31 #[.agg #[.slice A0 n cap],.slice Ap L.length N] w (.tuple #[.int .i64 (rJ D n L),errV (placeErr D n L)]):=by
 have l:=aA w A0 n cap 24;have h:=kj A0 cap n D A C Ap N L (aD w A0 n cap 24) (Q.later l) (R.later l);have u:=aa l;have HM:=aa Q;have HP:=aa R;clear Q l R
 by_cases r:placeErr D n L=0
 ·have t:Hid (InO D n L):=iw r
  have K:Hid (rJ D n L=numI D L n):=by show _=_;unfold rJ;rw [if_pos r]
  have I:Hid (errV (placeErr D n L)=.nilIface):=by show _=_;rw [r];rfl
  rw [r,errV_zero] at h;obtain ⟨hn1,hn4,-,hd⟩:=aw t.out.right;have HD:=aa hd;have hn':(n:Int)≤4:=by omega
  have G:=t.out.len;obtain ⟨T,O | ⟨bp,op,rfl,S,f⟩⟩:=HP.out
  ·rw [O] at G;simp at G;omega
  rw [G] at h T;rw [G];have HC:Hid (∀ j,j<n→w.cell? ⟨bp,op+j,none⟩=some (.int .i64 (L.getD j 0))):=fun j hj=>f j (by omega)
  clear r hd G f
  go_enter Tryz.func31,Tryz.ntmps31
  go_wp2_with fail;refine h.mono ?_;rintro e w1 ⟨rfl,a⟩;have P:Bl w w1:=ae u.out a;have h2:w1.cell? ⟨w.heap.size,0,none⟩=some (.slice A0 n cap):=aL a (by show w.heap.size<_;rw [aF];omega) (aR ..)
  obtain ⟨Z,O | ⟨b,o,rfl,z⟩⟩:=HM.out.later P
  ·omega
  have J:=aa z;have Y:=aa P;clear a h z P;go_wp2_with fail
  go_loopg [7,19] n (fun g s7 s19 wr => ∃ (k:Nat),k≤n∧g=n-k∧s19=.int .i64 k∧s7=.int .i64 (numI D L k)∧Bl w1 wr)
  case atStart=>exact ⟨0,zU,rfl,rfl,rfl,zS⟩
  case round =>
   obtain ⟨k,hk,rfl,rfl,rfl,q⟩:=hrel;have M:=aa q
   by_cases i:k<n
   ·obtain ⟨O,h1,h3,-⟩:=(J.out.later q).2 k i
    have hki:(k:Int)<(n:Int):=by omega
    have s:wr.cell? ⟨bp,op+k,none⟩=some (.int .i64 (L.getD k 0)):=((ae Y.out q).cell (p:=⟨bp,op+k,none⟩) S).trans (HC.out k i);have F:∀ o1,(wr.alloc o1).cell? ⟨bp,op+k,none⟩=some (.int .i64 (L.getD k 0)):=fun o1=>(World.cell?_alloc_lt _ _ ⟨bp,op+k,none⟩ (World.block_lt_of_cell? _ _ s)).trans s
    obtain ⟨a,d,hb3⟩:=bJ t.out (k:=k+1) (by omega)
    obtain ⟨B,E,hb6⟩:=bJ t.out (k:=k) (by omega)
    have X:=t.out.lo k i;have H:=t.out.hi k i;obtain ⟨U,V⟩:=HD.out k i;have v:Hid (numI D L (k+1)=numI D L k*((D k).n:Int)+L.getD k 0):=rfl;rw [v.out] at a d;generalize L.getD k 0=x at s F a d X H v;generalize (D k).n=m at h3 a d U V H v;generalize numI D L k=y at a d B E v;have hm0:0≤y*(m:Int):=Int.mul_nonneg B (by omega)
    have hm1:y*(m:Int)≤20736:=by omega
    have hm2:y*(m:Int)+x≤20736:=by omega
    clear q d E;go_wp2_with fail
    go_quiet (fail)
    go_wp2_with fail
    go_roundg (n-(k+1))
    case measure=>omega
    case rel=>exact ⟨k+1,by omega,rfl,by go_num,by rw [v.out],ac (M.out.alloc (by have:=M.out.size;omega) _) _⟩
   have W:k=n:=by omega
   subst W;go_wp2_with fail
   go_ret2
   rw [K.out,I.out];exact ⟨rfl,ae Y.out M.out⟩
 have K:Hid (rJ D n L=0):=by show _=_;unfold rJ;rw [if_neg r]
 have I:Hid (errV (placeErr D n L)=.iface 68 (.int .i64 (placeErr D n L))):=aj r;rw [aj r] at h;clear r;generalize placeErr D n L=c at h I;generalize L.length=m at h
 go_enter Tryz.func31,Tryz.ntmps31
 go_wp2_with fail;refine h.mono ?_;rintro e w1 ⟨rfl,a⟩;go_wp2_with fail
 go_ret2
 rw [K.out,I.out];exact ⟨rfl,ae u.out a⟩
theorem oQ (d:Dm) (b o cap:Nat) (i:Int) (w:World) (X:d.n≤12) (K:b8 w b o d.n d.mem):Calls Tryz.prog 59 #[.agg #[.string d.name,.int .i64 d.solve,.slice (some ⟨b,o,none⟩) d.n cap],.int .i64 i] w fun e w'=>(∃ A c,e=.returned (.slice A (bj d.mem d.n i).length c)∧bU w' A c (bj d.mem d.n i))∧Bl w w':=by
 obtain ⟨i0,y,F,G,H⟩:=info_parts Tryz.infoInt;have L:=aZ w d (some ⟨b,o,none⟩) cap 37;have m:=aM w d (some ⟨b,o,none⟩) cap 37;have v:=(dD w d (some ⟨b,o,none⟩) cap 37).2.2;obtain ⟨W,x⟩:∃ W,W=aI w d (some ⟨b,o,none⟩) cap 37:=⟨_,rfl⟩;rw [←x] at L m v;have R:=aa x;have r:=aa m;have P:=aa (K.later m);have O:=aa v;have E:w.heap.size<W.heap.size:=by omega
 have U:(d.n:Int)≤12:=by omega
 obtain ⟨p,C⟩:∃ p:Nat→Bool,p=gW d.mem i:=⟨_,rfl⟩;have Q:=aa C;unfold bj;rw [←C];clear K x m v L C
 go_enter Tryz.func59,Tryz.ntmps59
 go_wp2_with fail
 go_loopg [5,6] d.n (fun g s5 s6 wr => ∃ (k:Nat),k≤d.n∧g=d.n-k∧s6=.int .i64 k∧wr.ownsRow W.heap.size 3 1 s5 (selTo p k).length (aE (selTo p k))∧Bl W wr)
 case atStart=>exact ⟨0,zU,rfl,rfl,World.ownsRow_nil _ _ _ _,by rw [R.out];exact zS⟩
 case round =>
  obtain ⟨k,V,rfl,rfl,a,f⟩:=hrel;have q:=aa f;have I:=aa a;have c2:wr.cell? ⟨w.heap.size,2,none⟩=some (.slice (some ⟨b,o,none⟩) d.n cap):=aL f E O.out;have N:=f.size
  by_cases B:k<d.n
  ·have T:(k:Int)<(d.n:Int):=by omega
   obtain ⟨-,J,-,-⟩:=(P.out.later f).2 k B;have M:=cS p k;have h:p k=((d.mem k).parent == i):=by rw [Q.out];rfl
   clear f;cases hb:p k
   ·have t:=aa hb
    rw [hb] at h;have D:((d.mem k).parent == i)=false:=h.symm;clear hb h a;go_wp2_with fail
    go_roundg (d.n-(k+1))
    case measure=>omega
    case rel=>exact ⟨k+1,by omega,rfl,by go_num,by rw [iH t.out];exact I.out,q.out⟩
   have t:=aa hb;rw [hb] at h;have D:((d.mem k).parent == i)=true:=h.symm;clear hb h
   go_wp2_with (at_builtin;refine wpList_append_own _ rfl _ _ 26 rfl W.heap.size 3 i0 (.int .i64 0) 1 8 Tryz.underlying26 y F G H rfl (by decide) _ _ _ rfl (a.alloc _) ⟨wr.heap.size,0,none⟩ 1 1 [.int .i64 k] rfl rfl bu dY (by unfold maxLen;omega) (by omega) (by simp;omega) ?_)
   intro v' w2 l j _;have s:Hid (Bl W w2):=bA q.out a j;have u:Hid (w2.ownsRow W.heap.size 3 1 v' (selTo p (k+1)).length (aE (selTo p (k+1)))):=by
    show World.ownsRow ..
    rw [lH t.out,mapI_snoc,List.length_append];exact l
   clear l j a c2;go_wp2_with fail
   go_roundg (d.n-(k+1))
   case measure=>omega
   case rel=>exact ⟨k+1,by omega,rfl,by go_num,u.out,s.out⟩
  have z:k=d.n:=by omega
  subst z;clear f a;go_wp2_with fail;go_ret;obtain ⟨A,c,J,S⟩:=rA I.out;exact ⟨⟨A,c,by rw [←J];rfl,S⟩,ae r.out q.out⟩
theorem Ci {p:Nat→Bool} {n:Nat}:((selTo p n).length=0)↔¬ 0≤findFrom p n 0:=by
 rcases findFrom_cases p n 0 with ⟨a,b⟩ | ⟨k,a,_,f,c,_⟩
 ·rw [a,xx (fun j g=>b j (zU) (by omega))]
  simp
 rw [a]
 constructor
 ·intro h
  have d:∀ m,k<m→0<(selTo p m).length:=fun m i=>by
   induction m with
   | zero=>omega
   | succ m ih =>
    rw [selTo,List.length_append]
    by_cases e:k=m
    ·subst e;rw [if_pos c];simp
    have:=ih (by omega);omega
  have:=d n (by omega)
  omega
 intro h;omega
theorem qP (d:Dm) (b o cap i:Nat) (w:World) (u:d.n≤12) (s:i<d.n) (j:b8 w b o d.n d.mem):Rt 81 #[.agg #[.string d.name,.int .i64 d.solve,.slice (some ⟨b,o,none⟩) d.n cap],.int .i64 i] w (.bool (leafB d.mem d.n i)):=by
 have q:=aZ w d (some ⟨b,o,none⟩) cap 37;have a:=aM w d (some ⟨b,o,none⟩) cap 37;have g:=j.later a;have c:=oQ d b o cap i (aI w d (some ⟨b,o,none⟩) cap 37) u g;have k:=aa a;obtain ⟨-,-,-,y⟩:=j.2 i s;have r:=j.1;have t:(i:Int)<(d.n:Int):=by omega
 have v:(d.n:Int)≤12:=by omega
 clear j g a q
 by_cases f:(d.mem i).formula.size=0
 ·have m:(d.mem i).formula.toList.isEmpty=true:=by rw [aN];simpa using f
  have h:Hid (leafB d.mem d.n i=(((bj d.mem d.n i).length:Int) == 0)):=by
   show _=_
   rw [lT f,Bool.eq_iff_iff];have:=Ci (p:=gW d.mem i) (n:=d.n);simp only [Bool.not_eq_true',decide_eq_false_iff_not,beq_iff_eq];rw [←this]
   show _↔((bj d.mem d.n i).length:Int)=0
   unfold bj
   omega
  clear f;generalize (bj d.mem d.n i).length=np at c h
  go_enter Tryz.func81,Tryz.ntmps81
  go_wp2_with fail;refine c.mono ?_;rintro e w1 ⟨⟨A',x,rfl,z⟩,l⟩;go_wp2_with fail;go_ret;exact ⟨by rw [h.out];rfl,ae k.out l⟩
 have m:(d.mem i).formula.toList.isEmpty=false:=by rw [aN];simpa using f
 have h:Hid (leafB d.mem d.n i=false):=nP f;clear f c
 go_enter Tryz.func81,Tryz.ntmps81
 go_wp2_with fail;go_ret;exact ⟨by rw [h.out];rfl,by go_grown⟩
theorem FE (t:Addr) (w:World):(ReflectliteValue.unpack (.iface 120 (.pointer (some t)))).run Tryz.prog w
  = .ok (.agg #[.pointer (some ⟨7,120,none⟩),.pointer (some ⟨w.heap.size,0,none⟩),.int .u64 150]) (w.alloc (.cells #[.pointer (some t)] 120)):=by kernel_rfl
theorem Ku (a : Addr) (w : World) : (ReflectliteValue.methodAny (ReflectliteValue.valueError "reflectlite.Value.Type" 0) (fun t _ _ _ => ReflectliteType.toType t) #[.agg #[.pointer (some ⟨7, 120, none⟩), .pointer (some a), .int .u64 150]]).run Tryz.prog w
  = .ok (.iface 203 (.agg #[.pointer (some ⟨7,120,none⟩)])) w:=by kernel_rfl
theorem ww (h : Value) (w : World) : (Go.method 467 203 (.agg #[h]) "Kind").run Tryz.prog w = .ok (313, h) w := by kernel_rfl
theorem Ki (w:World):((ReflectliteType.abiMethod fun t=>Functor.map (fun a:Nat=>Value.int IntKind.u8 (a:Int)) (Rtype.kind t)) #[.pointer (some ⟨7,120,none⟩)]).run Tryz.prog w=.ok (.int .u8 22) w:=by kernel_rfl
theorem Kh (w:World):((ReflectliteType.abiMethod fun t=>Functor.map (fun a:Nat=>Value.int IntKind.u8 (a:Int)) (Rtype.kind t)) #[.pointer (some ⟨7,68,none⟩)]).run Tryz.prog w=.ok (.int .u8 2) w:=by kernel_rfl
theorem Ba (a : Addr) (W : World) : (ReflectliteValue.method (ReflectliteValue.valueError "reflectlite.Value.IsNil" 0) ReflectliteValue.isNil #[.agg #[.pointer (some ⟨7, 120, none⟩), .pointer (some a), .int .u64 150]]).run Tryz.prog W = (ReflectliteValue.isNil 120 a 150 22).run Tryz.prog W := by kernel_rfl
theorem tT (a : Addr) (W : World) : (ReflectliteValue.method (ReflectliteValue.valueError "reflectlite.Value.Elem" 0) ReflectliteValue.elem #[.agg #[.pointer (some ⟨7, 120, none⟩), .pointer (some a), .int .u64 150]]).run Tryz.prog W = (ReflectliteValue.elem 120 a 150 22).run Tryz.prog W := by kernel_rfl
theorem Io (ta b:Addr) (W:World):(ReflectliteValue.set #[.agg #[.pointer (some ⟨7,68,none⟩),.pointer (some ta),.int .u64 386],.agg #[.pointer (some ⟨7,68,none⟩),.pointer (some b),.int .u64 130]]).run Tryz.prog W=(do let v ←loadVar 68 b;storeVar 68 ta v;pure (Value.tuple #[]):Sem Value).run Tryz.prog W:=by kernel_rfl
theorem H8 (a p:Addr) (W:World) (b:W.cell? a=some (.pointer (some p))) :
  (ReflectliteValue.method (ReflectliteValue.valueError "reflectlite.Value.IsNil" 0) ReflectliteValue.isNil #[.agg #[.pointer (some ⟨7, 120, none⟩), .pointer (some a), .int .u64 150]]).run Tryz.prog W = .ok (.bool false) W := by
 rw [Ba]
 simp [ReflectliteValue.isNil,loadVar,isAgg,underlying,Tryz.underlying120,b,Result.andThen]
theorem wu (h : Value) (w : World) : (Go.method 467 203 (.agg #[h]) "Elem").run Tryz.prog w = .ok (324, .agg #[h]) w := by kernel_rfl
theorem ls (h : Value) (w : World) : (Go.method 467 203 (.agg #[h]) "Implements").run Tryz.prog w = .ok (325, .agg #[h]) w := by kernel_rfl
theorem ke (h : Value) (w : World) : (Go.method 467 203 (.agg #[h]) "AssignableTo").run Tryz.prog w = .ok (322, .agg #[h]) w := by kernel_rfl
theorem I0 (w:World):(ReflectliteType.method ReflectliteType.elem #[.agg #[.pointer (some ⟨7,120,none⟩)]]).run Tryz.prog w=.ok (.iface 203 (.agg #[.pointer (some ⟨7,68,none⟩)])) w:=by kernel_rfl
theorem tt (w : World) : (ReflectliteType.relation "Implements" ReflectliteType.implements_ #[.agg #[.pointer (some ⟨7, 68, none⟩)], .iface 203 (.agg #[.pointer (some ⟨7, 42, none⟩)])]).run Tryz.prog w = .ok (.bool true) w := by kernel_rfl
theorem GZ (v:Value) (w:World):(ReflectliteType.typeOf #[.iface 68 v]).run Tryz.prog w=.ok (.iface 203 (.agg #[.pointer (some ⟨7,68,none⟩)])) w:=by kernel_rfl
theorem sH (w : World) : (ReflectliteType.relation "AssignableTo" ReflectliteType.assignableTo #[.agg #[.pointer (some ⟨7, 68, none⟩)], .iface 203 (.agg #[.pointer (some ⟨7, 68, none⟩)])]).run Tryz.prog w = .ok (.bool true) w := by kernel_rfl
theorem FD (c:Int) (w:World):(ReflectliteValue.unpack (.iface 68 (.int .i64 c))).run Tryz.prog w
  = .ok (.agg #[.pointer (some ⟨7,68,none⟩),.pointer (some ⟨w.heap.size,0,none⟩),.int .u64 130]) (w.alloc (.cells #[.int .i64 c] 68)):=by kernel_rfl
theorem elemOfP (w:World):(Rtype.elem? 120).run Tryz.prog w=.ok (some 68) w:=by kernel_rfl
theorem Ll (p:Addr) (w:World):(ReflectliteValue.mk 68 p ReflectliteValue.flagAddr).run Tryz.prog w=.ok (.agg #[.pointer (some ⟨7,68,none⟩),.pointer (some p),.int .u64 386]) w:=by kernel_rfl
theorem Hr (a p:Addr) (W:World) (b:W.cell? a=some (.pointer (some p))) :
  (ReflectliteValue.method (ReflectliteValue.valueError "reflectlite.Value.Elem" 0) ReflectliteValue.elem #[.agg #[.pointer (some ⟨7, 120, none⟩), .pointer (some a), .int .u64 150]]).run Tryz.prog W
   = .ok (.agg #[.pointer (some ⟨7,68,none⟩),.pointer (some p),.int .u64 386]) W:=by
 rw [tT]
 simp [ReflectliteValue.elem,loadVar,isAgg,underlying,Tryz.underlying120,b,Result.andThen,elemOfP,Ll]
theorem K1 (ta b:Addr) (c:Int) (old:Value) (W:World) (a:W.cell? b=some (.int .i64 c)) (e:W.cell? ta=some old) (d:W.frozen? ta=false) :
  (ReflectliteValue.set #[.agg #[.pointer (some ⟨7,68,none⟩),.pointer (some ta),.int .u64 386],.agg #[.pointer (some ⟨7,68,none⟩),.pointer (some b),.int .u64 130]]).run Tryz.prog W
   = .ok (.tuple #[]) (W.setCell ta (.int .i64 c)):=by
 rw [Io]
 simp [loadVar,isAgg,underlying,Tryz.underlying68,a,Result.andThen,storeVar,Value.cells,storeCells,Addr.add]
 rw [run_store Tryz.prog W ta _ _ (by rfl)]
 simp [e,d]
def gH (w:World):Prop:=w.cell? ⟨0,0,none⟩=some (.iface 203 (.agg #[.pointer (some ⟨7,42,none⟩)]))
theorem gH.lt {w:World} (h:gH w):0<w.heap.size:=by
 rcases Nat.lt_or_ge 0 w.heap.size with h' | h'
 ·exact h'
 unfold gH at h
 simp [World.cell?,Array.getElem?_eq_none h'] at h
theorem gH.later {w w':World} (h:gH w) (a:Bl w w'):gH w':=aL a h.lt h
theorem Hk (c:Int) (b:Nat) (w:World) (e:gH w) (a:b<w.heap.size) (g:w.cell? ⟨b,0,none⟩=some (.int .i64 0)) (d:w.frozen? ⟨b,0,none⟩=false) :
  Calls Tryz.prog 70 #[.iface 68 (.int .i64 c),.iface 120 (.pointer (some ⟨b,0,none⟩))] w fun h w'=>h=.returned (.bool true)∧w'=((((w.alloc (.cells #[.pointer (some ⟨b,0,none⟩)] 120)).alloc (.cells #[.pointer (some ⟨7,120,none⟩),.pointer (some ⟨w.heap.size,0,none⟩),.int .u64 150] 171)).alloc (.cells #[.pointer (some ⟨7,120,none⟩),.pointer (some ⟨w.heap.size,0,none⟩),.int .u64 150] 171)).alloc (.cells #[.int .i64 c] 68)).setCell ⟨b,0,none⟩ (.int .i64 c):=by
 have x1 := @run_callFunc_extern Tryz.prog 103 _ (fun args=>ReflectliteValue.unpack (args.getD 0 (.tuple #[]))) Tryz.func103 (by kernel_rfl) (by kernel_rfl) (by kernel_rfl) (by kernel_rfl)
 have x2 := @run_callFunc_extern Tryz.prog 104 _ (ReflectliteValue.methodAny (ReflectliteValue.valueError "reflectlite.Value.Type" 0) (fun t _ _ _ => ReflectliteType.toType t)) Tryz.func104 (by kernel_rfl) (by kernel_rfl) (by kernel_rfl) (by kernel_rfl)
 have x3 := @run_callFunc_extern Tryz.prog 105 _ (ReflectliteValue.method (ReflectliteValue.valueError "reflectlite.Value.IsNil" 0) ReflectliteValue.isNil) Tryz.func105 (by kernel_rfl) (by kernel_rfl) (by kernel_rfl) (by kernel_rfl)
 have x4 := @run_callFunc_extern Tryz.prog 313 _ (ReflectliteType.abiMethod fun t=>do pure (.int .u8 (←Rtype.kind t))) Tryz.func313 (by kernel_rfl) (by kernel_rfl) (by kernel_rfl) (by kernel_rfl)
 have x5 := @run_callFunc_extern Tryz.prog 324 _ (ReflectliteType.method ReflectliteType.elem) Tryz.func324 (by kernel_rfl) (by kernel_rfl) (by kernel_rfl) (by kernel_rfl)
 have x6 := @run_callFunc_extern Tryz.prog 325 _ (ReflectliteType.relation "Implements" ReflectliteType.implements_) Tryz.func325 (by kernel_rfl) (by kernel_rfl) (by kernel_rfl) (by kernel_rfl)
 have x7 := @run_callFunc_extern Tryz.prog 130 _ ReflectliteType.typeOf Tryz.func130 (by kernel_rfl) (by kernel_rfl) (by kernel_rfl) (by kernel_rfl)
 have x8 := @run_callFunc_extern Tryz.prog 322 _ (ReflectliteType.relation "AssignableTo" ReflectliteType.assignableTo) Tryz.func322 (by kernel_rfl) (by kernel_rfl) (by kernel_rfl) (by kernel_rfl)
 have x9 := @run_callFunc_extern Tryz.prog 131 _ (ReflectliteValue.method (ReflectliteValue.valueError "reflectlite.Value.Elem" 0) ReflectliteValue.elem) Tryz.func131 (by kernel_rfl) (by kernel_rfl) (by kernel_rfl) (by kernel_rfl)
 have xa := @run_callFunc_extern Tryz.prog 132 _ ReflectliteValue.set Tryz.func132 (by kernel_rfl) (by kernel_rfl) (by kernel_rfl) (by kernel_rfl)
 have m:=GZ;have n:=ke;have o:=sH;have p:=FD;have q:=FE;have r:=Ku;have s:=ww;have u:=wu;have v:=ls;have x:=Ki;have y:=Kh;have z:=I0;have A:=tt;have k:=H8 ⟨w.heap.size,0,none⟩ ⟨b,0,none⟩ ((w.alloc (.cells #[.pointer (some ⟨b,0,none⟩)] 120)).alloc (.cells #[.pointer (some ⟨7,120,none⟩),.pointer (some ⟨w.heap.size,0,none⟩),.int .u64 150] 171)) (by simp)
 have f:=e.lt;have i:((w.alloc (.cells #[.pointer (some ⟨b,0,none⟩)] 120)).alloc (.cells #[.pointer (some ⟨7,120,none⟩),.pointer (some ⟨w.heap.size,0,none⟩),.int .u64 150] 171)).cell? ⟨0,0,none⟩=some (.iface 203 (.agg #[.pointer (some ⟨7,42,none⟩)])):=by
  rw [World.cell?_alloc_lt _ _ ⟨0,0,none⟩ (by simp),World.cell?_alloc_lt _ _ ⟨0,0,none⟩ f];exact e
 have j:=Hr ⟨w.heap.size,0,none⟩ ⟨b,0,none⟩ (((w.alloc (.cells #[.pointer (some ⟨b,0,none⟩)] 120)).alloc (.cells #[.pointer (some ⟨7,120,none⟩),.pointer (some ⟨w.heap.size,0,none⟩),.int .u64 150] 171)).alloc (.cells #[.pointer (some ⟨7,120,none⟩),.pointer (some ⟨w.heap.size,0,none⟩),.int .u64 150] 171)) (by rw [World.cell?_alloc_lt _ _ ⟨w.heap.size,0,none⟩ (by simp;omega)];simp)
 have l:=K1 ⟨b,0,none⟩ ⟨w.heap.size+1+1+1,0,none⟩ c (.int .i64 0) ((((w.alloc (.cells #[.pointer (some ⟨b,0,none⟩)] 120)).alloc (.cells #[.pointer (some ⟨7,120,none⟩),.pointer (some ⟨w.heap.size,0,none⟩),.int .u64 150] 171)).alloc (.cells #[.pointer (some ⟨7,120,none⟩),.pointer (some ⟨w.heap.size,0,none⟩),.int .u64 150] 171)).alloc (.cells #[.int .i64 c] 68))
  (by rw [World.cell?_alloc_at _ _ _ _ (by simp)];rfl)
  (by rw [World.cell?_alloc_lt _ _ ⟨b,0,none⟩ (by simp;omega),World.cell?_alloc_lt _ _ ⟨b,0,none⟩ (by simp;omega),World.cell?_alloc_lt _ _ ⟨b,0,none⟩ (by simp;omega),World.cell?_alloc_lt _ _ ⟨b,0,none⟩ a];exact g)
  (by rw [World.frozen?_alloc_old _ _ ⟨b,0,none⟩ (by simp;omega),World.frozen?_alloc_old _ _ ⟨b,0,none⟩ (by simp;omega),World.frozen?_alloc_old _ _ ⟨b,0,none⟩ (by simp;omega),World.frozen?_alloc_old _ _ ⟨b,0,none⟩ (Nat.ne_of_lt a)];exact d)
 clear e
 go_enter Tryz.func70,Tryz.ntmps70
 go_wp2;refine wp_loop_rounds 1 ?_;rw [rounds_succ];go_wp2;go_ret;exact ⟨rfl,rfl⟩
end Go.Proofs.YthlhjjabkgpenaaGreatDoor
