/- Edits of a hall (plain -/
import Derived.Test.YtompdcaikmekkaaGreatDoorJHBK
import Derived.Test.YtompdcaikmekkaaGreatDoorJHBM
namespace Go.Proofs.YtompdcaikmekkaaGreatDoor
open ChangeShapes WideShapes ChangeAt RowKit
set_option maxRecDepth 99999
set_option maxHeartbeats 0
def JY (x:Ed):Int×Int:=if x.clear=true then (0,0) else eE x.n
def wrE (D:Nat→Dm) (n:Nat) (L:List (Int×Int)) (x:Ed):List (Int×Int):=L.set (numI D x.pl n).toNat (JY x)
def wrTo (D:Nat→Dm) (n:Nat) (L:List (Int×Int)) (Y:List Ed) (k:Nat):List (Int×Int):=(Y.take k).foldl (wrE D n) L
theorem mJ (D:Nat→Dm) (n:Nat) (L:List (Int×Int)) (Y:List Ed) {k:Nat} (a:k<Y.length):wrTo D n L Y (k+1)=wrE D n (wrTo D n L Y k) (Y.getD k o9):=by
 unfold wrTo;rw [List.take_succ_eq_append_getElem a,List.foldl_append,zZ,zX a]
 rfl
theorem vR (D:Nat→Dm) (n:Nat) (L:List (Int×Int)) (Y:List Ed):∀ k,k≤Y.length→(wrTo D n L Y k).length=L.length
 | 0,_=>rfl
 | k+1,h=>by rw [mJ D n L Y (by omega),wrE,List.length_set,vR D n L Y k (by omega)]
theorem sC:∀ (A B:List Int),A.Nodup→(∀ x∈A,x∈B)→A.length≤B.length
 | [],_,_,_=>zU
 | a :: r,B,hA,h=>by
  obtain ⟨d,f⟩:=List.nodup_cons.1 hA;have b:=h a (List.mem_cons_self ..);have g:0<B.length:=List.length_pos_of_mem b;have:=sC r (B.erase a) f fun x c=>(List.mem_erase_of_ne (fun e=>d (by rw [←e];exact c))).2 (h x (List.mem_cons_of_mem _ c))
  rw [List.length_erase_of_mem b] at this;rw [List.length_cons]
  omega
section
variable {D:Nat→Dm} {n:Nat}
theorem jB {l:List En} {x:Ed} (c:Ens D n l) (h:editErr D n l x=0):shapeErr D n x.pl=0∧leafV D n x.pl=true∧(x.clear=true→hasE l x.pl=true)∧(x.clear=false→cT x.n=true):=by
 unfold editErr at h
 split at h
 ·rename_i h1;exact absurd h h1
 rename_i h1
 refine ⟨by simpa using h1,?_⟩
 split at h
 ·rename_i h2
  split at h
  ·rename_i h3
   obtain ⟨-,a,b⟩:=tb h3 0;have d:l.getD (cntE l x.pl) noEn∈l:=by rw [zZ,zX a];exact List.getElem_mem a
   have:=(c.each _ d).2.1;rw [b] at this;exact ⟨this,fun _=>h3,fun e=>by rw [h2] at e;cases e⟩
  cases h
 rename_i h2
 split at h
 ·cases h
 rename_i h3
 split at h
 ·cases h
 rename_i a
 exact ⟨by simpa using h3,fun e=>absurd e h2,fun _=>by simpa using a⟩
theorem oD {l:List En} {x:Ed} (b:Ens D n l) (h:editErr D n l x=0) (q:List Int):getE (editV l x) q=if q=x.pl then JY x else getE l q:=by
 obtain ⟨-,-,c,d⟩:=jB b h;unfold editV JY
 by_cases a:x.clear=true
 ·rw [if_pos a,if_pos a]
  by_cases e:q=x.pl
  ·rw [if_pos e,e]
   exact (b.gone (c a)).1
  rw [if_neg e];obtain ⟨g1,g2,-⟩:=lW b.rise x.pl (c a);refine uc g1 b.rise fun y f=>?_
  rw [g2];exact ⟨fun h=>h.1,fun h=>⟨h,by rw [f];exact e⟩⟩
 rw [if_neg a,if_neg a]
 by_cases e:q=x.pl
 ·rw [if_pos e,e,(b.there _ _).1]
  have:=d (by simpa using a)
  unfold cT at this;simp only [Bool.and_eq_true,decide_eq_true_eq] at this;unfold eE;rw [if_pos ⟨by omega,by omega⟩]
 rw [if_neg e];exact b.else e _
theorem vf {j:Nat} {p:List Int} (a:InO D n p) (b:j<prodN D n) (h:j≠(numI D p n).toNat):aj D n j≠p:=fun e=>h (by
 have:=mt a.right b;rw [e] at this
 omega)
def IN (D:Nat→Dm) (n:Nat) (l l':List En) (L:List (Int×Int)):Prop:=L.length=prodN D n∧∀ j:Nat,j<prodN D n→(byTo D (aj D n j) n<0→L.getD j noC=getE l' (aj D n j))∧(¬ byTo D (aj D n j) n<0→L.getD j noC=ey D n (getE l) (aj D n j))
theorem IN.start {l:List En} (b:(aP D n).2.2=0) (a:Ens D n l):IN D n l l (caL D n l):=by
 refine ⟨gK (gw b a),fun j c=>⟨fun h=>?_,fun _=>v8 (gw b a) c⟩⟩
 rw [v8 (gw b a) c,fO _ h]
theorem IN.step {l l':List En} {L:List (Int×Int)} {x:Ed} (h:IN D n l l' L) (b:Ens D n l') (c:editErr D n l' x=0):IN D n l (editV l' x) (wrE D n L x):=by
 obtain ⟨q,k,-,-⟩:=jB b c;have a:=(b.edit c).1;have d:byTo D x.pl n = -1:=by
  have:=zQ (D:=D) (n:=n) a.ok;rw [k] at this
  simpa using this.symm
 have m:=ba a (Nat.le_refl n);refine ⟨by rw [wrE,List.length_set];exact h.1,fun j g=>?_⟩
 by_cases e:j=(numI D x.pl n).toNat
 ·have p:aj D n j=x.pl:=by rw [e];exact gj a
  rw [p];refine ⟨fun _=>?_,fun o=>absurd (by rw [d];decide) o⟩
  rw [oD b c,if_pos rfl,wrE,zZ,e,List.getElem?_set_self (by rw [h.1];omega)]
  rfl
 have f:=vf a g e;rw [oD b c,if_neg f,wrE,zZ,List.getElem?_set_ne (fun i=>e i.symm),←zZ]
 exact h.2 j g
theorem GD {l:List En} {Y:List Ed} (c:(aP D n).2.2=0) (a:Ens D n l) (h:doE D n l Y=0):∀ k,k≤Y.length→IN D n l (kT l Y k) (wrTo D n (caL D n l) Y k)
 | 0,_=>IN.start c a
 | k+1,hk=>by
  obtain ⟨-,-,b⟩:=jm a h;rw [mJ _ _ _ _ (by omega),lZ _ _ (by omega)]
  exact (GD c a h k (by omega)).step (b k (by omega)).2 (b k (by omega)).1
def numsY (D:Nat→Dm) (n:Nat) (Y:List Ed):List Int:=Y.map fun x=>numI D x.pl n
theorem Hp {Y:List Ed} {k:Nat} (a:k<Y.length):numI D (Y.getD k o9).pl n∈numsY D n Y:=List.mem_map.2 ⟨Y.getD k o9,by rw [zZ,zX a];exact List.getElem_mem a,rfl⟩
theorem qM {l:List En} {Y:List Ed} (p:(aP D n).2.2=0) (o:Ens D n l) (h:doE D n l Y=0) {i:Nat} (b:i<prodN D n) (g:(i:Int)∉drtL D n (numsY D n Y)):∀ k,k≤Y.length→ey D n (getE (kT l Y k)) (aj D n i)=ey D n (getE l) (aj D n i)
 | 0,_=>rfl
 | k+1,hk=>by
  obtain ⟨r,s⟩:=ew p;obtain ⟨-,-,q⟩:=jm o h;obtain ⟨d,e⟩:=q k (by omega)
  have f:=(e.edit d).1;have a:=ba f (Nat.le_refl n);rw [←qM p o h b g k (by omega),lZ _ _ (by omega)]
  refine Dp s r (m:=(numI D (Y.getD k o9).pl n).toNat) (fun j t c=>?_) _ i b (Nat.lt_succ_self _) fun u=>g ?_
  ·rw [oD e d,if_neg (vf f t c)]
  unfold drtL;rw [Ik b,kQ];exact ⟨_,by rw [Int.toNat_of_nonneg a.1];exact Hp (by omega),u⟩
def Be (D:Nat→Dm) (n:Nat) (l':List En) (DR O:List Int) (k:Nat) (L:List (Int×Int)):Prop:=L.length=prodN D n∧∀ j:Nat,j<prodN D n→(byTo D (aj D n j) n<0→L.getD j noC=getE l' (aj D n j))∧((j:Int)∈O.take k∨(j:Int)∉DR→L.getD j noC=ey D n (getE l') (aj D n j))
theorem Bj {l:List En} {Y:List Ed} (f:(aP D n).2.2=0) (e:Ens D n l) (h:doE D n l Y=0) (O:List Int):Be D n (doL D n l Y) (drtL D n (numsY D n Y)) O 0 (wrTo D n (caL D n l) Y Y.length):=by
 obtain ⟨-,g,-⟩:=jm e h;have b:=GD f e h Y.length (zT);rw [g];refine ⟨b.1,fun j a=>⟨(b.2 j a).1,fun i=>?_⟩⟩
 have d:(j:Int)∉drtL D n (numsY D n Y):=i.resolve_left (by simp)
 by_cases c:byTo D (aj D n j) n<0
 ·rw [(b.2 j a).1 c,fO _ c]
 rw [(b.2 j a).2 c,qM f e h a d _ (zT)]
theorem DW {l':List En} {DR:List Int} {k:Nat} {L:List (Int×Int)} (w:(aP D n).2.2=0) (C:Ens D n l') (B:k<prodN D n) (h:Be D n l' DR (coL D n) k L):∃ m:Nat,(coL D n).getD k 0=(m:Int)∧m<prodN D n∧(∀ z∈ndsX D n m,b5 (L.getD z.toNat noC))∧Be D n l' DR (coL D n) (k+1) (L.set m (qg D n L m))∧(nA DR (m:Int)=false→Be D n l' DR (coL D n) (k+1) L)∧(coL D n).take (k+1)=(coL D n).take k ++ [(m:Int)]:=by
 obtain ⟨b,c⟩:=ew w;obtain ⟨m,t,a,x,u,p⟩:=xP (ff c b) (fA c b) (k:=k) (by rw [bL];exact B)
 have A:aC (rowsL D n) (prodN D n)=coL D n:=by unfold coL;rw [if_pos w]
 rw [bL,A] at t x u p;rw [bL] at a;have l:∀ z∈ndsX D n m,∃ y:Nat,z=(y:Int)∧y<prodN D n∧(y:Int)∈(coL D n).take k:=fun z f=>by
  obtain ⟨y,rfl,r⟩:=xE c b a z f;refine ⟨y,rfl,r,u _ ?_⟩;have E:=iA c b a;rw [lx a,←lC c b E,(List.mergeSort_perm _ _).mem_iff];exact f
 have g:∀ z∈ndsX D n m,L.getD z.toNat noC=ey D n (getE l') (aj D n z.toNat):=fun z f=>by
  obtain ⟨y,rfl,r,s⟩:=l z f;rw [Int.toNat_natCast];exact (h.2 y r).2 (Or.inl s)
 have o:=Gm c b a (fun q=>(h.2 m a).1 q) g
 have hcut:∀ j:Nat,j≠m→((j:Int)∈(coL D n).take (k+1)↔(j:Int)∈(coL D n).take k):=fun j e=>by
  rw [p,List.mem_append,List.mem_singleton];exact ⟨fun h=>h.resolve_right (by omega),Or.inl⟩
 refine ⟨m,t,a,fun z f=>?_,⟨by rw [List.length_set];exact h.1,fun j d=>?_⟩,fun v=>⟨h.1,fun j d=>⟨(h.2 j d).1,fun i=>?_⟩⟩,p⟩
 ·rw [g z f]
  exact oQ c (ma C) _ _ (bY b) (Nat.lt_succ_self _)
 ·by_cases e:j=m
  ·subst e
   rw [zZ,List.getElem?_set_self (by rw [h.1];exact d)]
   exact ⟨fun q=>by rw [Option.getD_some,o,fO _ q],fun _=>o⟩
  rw [zZ,List.getElem?_set_ne (fun h=>e h.symm),←zZ,hcut j e]
  exact h.2 j d
 by_cases e:j=m
 ·subst e
  exact (h.2 j d).2 (Or.inr (by unfold nA at v;rwa [decide_eq_false_iff_not] at v))
 rw [hcut j e] at i;exact (h.2 j d).2 i
theorem oj (c:(aP D n).2.2=0):(coL D n).length=prodN D n:=by
 obtain ⟨a,b⟩:=ew c;unfold coL;rw [if_pos c];exact eb (ff b a) (fA b a) (prodN D n) (by rw [bL];exact zT)
theorem Ep (c:(aP D n).2.2=0) {j:Nat} (e:j<prodN D n):(j:Int)∈coL D n:=by
 have a:(coL D n).Nodup∧∀ x∈coL D n,0≤x∧x<((rowsL D n).length:Int):=by unfold coL;rw [if_pos c];exact pq _ _
 refine Classical.byContradiction fun d=>?_
 have:=few (prodN D n) ((j:Int) :: coL D n) (List.nodup_cons.2 ⟨d,a.1⟩) fun x b=>by
  rcases List.mem_cons.1 b with rfl | b
  ·omega
  have:=a.2 x b;rw [bL] at this;exact this
 rw [List.length_cons,oj c] at this
 omega
theorem GL {l':List En} {DR:List Int} {L:List (Int×Int)} (a:(aP D n).2.2=0) (c:Ens D n l') (h:Be D n l' DR (coL D n) (prodN D n) L):L=caL D n l' :=
 D8 (gw a c) h.1 fun j b=>(h.2 j b).2 (Or.inl (by rw [List.take_of_length_le (by rw [oj a];exact zT)];exact Ep a b))
def cntD (DR O:List Int) (k:Nat):Nat:=((O.take k).filter fun x=>nA DR x).length
theorem GT (DR O:List Int) (k:Nat):cntD DR O k≤k:=zV (List.length_filter_le _ _) (by rw [List.length_take];omega)
theorem GV {DR O:List Int} {k:Nat} {z:Int} (h:O.take (k+1)=O.take k ++ [z]) (a:nA DR z=true):cntD DR O (k+1)=cntD DR O k+1:=by unfold cntD;rw [h,List.filter_append];simp [a]
theorem Eo {DR O:List Int} {k:Nat} {z:Int} (h:O.take (k+1)=O.take k ++ [z]) (a:nA DR z=false):cntD DR O (k+1)=cntD DR O k:=by unfold cntD;rw [h,List.filter_append];simp [a]
theorem GU {f:Nat→Bool} (d:(aP D n).2.2=0):cntD (selTo f (prodN D n)) (coL D n) (prodN D n)=(selTo f (prodN D n)).length:=by
 have b:(coL D n).Nodup:=by unfold coL;rw [if_pos d];exact (pq _ _).1
 have c:(selTo f (prodN D n)).Nodup:=(fh f (prodN D n)).imp fun h=>by omega
 unfold cntD;rw [List.take_of_length_le (by rw [oj d];exact zT)]
 refine Nat.le_antisymm (sC _ _ (b.filter _) fun x a=>?_) (sC _ _ c fun x a=>?_)
 ·have:=(List.mem_filter.1 a).2
  unfold nA at this
  simpa using this
 obtain ⟨m,rfl,e,-⟩:=cQ x a;exact List.mem_filter.2 ⟨Ep d e,by unfold nA;simpa using a⟩
theorem AV:∀ Q:List (List Int),(∀ q∈Q,shapeErr D n q=0)→shTo D n Q=0
 | [],_=>rfl
 | q :: r,h=>by
  unfold shTo;rw [if_neg (by simpa using h q (List.mem_cons_self ..))]
  exact AV r fun x a=>h x (List.mem_cons_of_mem _ a)
theorem oB {l:List En} {Y:List Ed} (p:(aP D n).2.2=0) (o:Ens D n l) (h:doE D n l Y=0):vT D n (Y.map Ed.pl)=0∧DI D n (Y.map Ed.pl)=drtL D n (numsY D n Y)∧doN D n l Y=(drtL D n (numsY D n Y)).length:=by
 obtain ⟨-,-,j⟩:=jm o h;have b:∀ q∈Y.map Ed.pl,shapeErr D n q=0∧leafV D n q=true:=fun q b=>by
  obtain ⟨x,r,rfl⟩:=List.mem_map.1 b;obtain ⟨k,g,e⟩:=List.getElem_of_mem r;obtain ⟨c,d⟩:=j k g;have i:Y.getD k o9=x:=by rw [zZ,zX g,e];rfl
  rw [i] at c;exact ⟨(jB d c).1,(jB d c).2.1⟩
 have s:wI D n (Y.map Ed.pl)=0:=by
  unfold wI;rw [if_neg (by simpa using AV _ fun q h=>(b q h).1),if_neg]
  rw [List.any_eq_true];rintro ⟨q,m,f⟩;rw [(b q m).2] at f;cases f
 have a:vT D n (Y.map Ed.pl)=0:=by unfold vT;rw [if_neg (by simpa using p)];exact s
 refine ⟨a,?_,by unfold doN;rw [if_pos h];rfl⟩
 unfold DI kR numsY;rw [if_pos a,List.map_map]
 rfl
end
def plD (ys:List EdL):List PL:=ys.map fun y=>⟨y.x.pl,y.A,y.c⟩
theorem plD_len (ys:List EdL):(plD ys).length=ys.length:=by simp [plD]
theorem Jb (ys:List EdL):lP (plD ys)=(lD ys).map Ed.pl:=by simp [lP,plD,lD,Function.comp_def]
theorem FL (ys:List EdL) {k:Nat} (a:k<ys.length):(plD ys).take (k+1)=(plD ys).take k ++ [⟨(ys.getD k noD).x.pl,(ys.getD k noD).A,(ys.getD k noD).c⟩]:=by
 rw [List.take_succ_eq_append_getElem (by rw [plD_len];exact a)]
 simp [plD,zX a]
theorem su (ys:List EdL) (k:Nat):(lD ys).getD k o9=(ys.getD k noD).x:=by
 unfold lD;rw [zZ,zZ,List.getElem?_map];cases ys[k]? <;> rfl
theorem Dk {w:World} {g x q:Nat} (h:q≠g) (a b:Value):((w.setCell ⟨g,x,none⟩ a).setCell ⟨g,x+1,none⟩ b).heap[q]?=w.heap[q]?:=(av _ _ _ _ _ h).trans (av _ _ _ _ _ h)
theorem yI {w:World} {g x q o:Nat} {v:Value} (h:q≠g) (c:w.cell? ⟨q,o,none⟩=some v) (a b:Value):((w.setCell ⟨g,x,none⟩ a).setCell ⟨g,x+1,none⟩ b).cell? ⟨q,o,none⟩=some v:=(World.cell?_of_block (a:=⟨q,o,none⟩) (Dk h a b)).trans c
theorem yJ {w:World} {g x:Nat} (a b:Value):((w.setCell ⟨g,x,none⟩ a).setCell ⟨g,x+1,none⟩ b).heap.size=w.heap.size:=by simp
theorem sO (Ax:Option Addr) (X:Nat) (ys:List EdL) (w:World) (hl:ys.length≤60) (Y:km w Ax X ys) :
  Calls Tryz.prog 54 #[.slice Ax ys.length X] w fun e w'=>(∃ A' q,e=.returned (.slice A' ys.length q)∧rT w' A' q (plD ys))∧Bl w w':=by
 obtain ⟨i0,O,S,T,U⟩:=info_parts Tryz.infoPla;have W:=aa Y;obtain ⟨ny,h⟩:=aA ys.length;have a:=aa h;have L:Hid (∀ k,k<ny→(plD ys).take (k+1)=(plD ys).take k ++ [⟨(ys.getD k noD).x.pl,(ys.getD k noD).A,(ys.getD k noD).c⟩]):=fun k P=>FL ys (by rw [h];exact P)
 have HTl:Hid (∀ k,k≤ny→((plD ys).take k).length=k):=fun k P=>by rw [List.length_take,plD_len,h];omega
 rw [h] at hl ⊢;have hlI:(ny:Int)≤60:=by omega
 clear Y h
 go_enter Tryz.func54,Tryz.ntmps54
 go_wp2_with fail
 go_loopg [3,8] ny (fun gg s3 s8 wr => ∃ (k:Nat) (v:Value),k≤ny∧gg=ny-k∧s8=.int .i64 k∧v=s3∧Hid (wr.ownsRow w.heap.size 27 1 v k (gt ((plD ys).take k)))∧Hid (Bl w wr))
 case atStart=>exact ⟨0,_,zU,rfl,rfl,rfl,aa (by simpa [gt] using World.ownsRow_nil _ _ _ _),zS⟩
 case round =>
  obtain ⟨k,v,P,rfl,rfl,rfl,V,l⟩:=hrel
  by_cases D:k<ny
  ·have R:k<ys.length:=by rw [a.out];exact D
   have hki:(k:Int)<(ny:Int):=by omega
   obtain ⟨N,-,t | ⟨b,o,rfl,d⟩⟩:=W.out.later l.out
   ·have:=a.out;rw [t] at this;simp at this;omega
   obtain ⟨H,d1,d2,-⟩:=d.2 k R;have hbl:b<wr.heap.size:=d.1;have m:=aa (L.out k D);rw [a.out] at N;generalize (ys.getD k noD).A=A1 at H m;generalize (ys.getD k noD).c=k1 at H m;generalize (ys.getD k noD).x.n=n1 at d1;generalize (ys.getD k noD).x.clear=q1 at d2;generalize (ys.getD k noD).x.pl=pl at H m;obtain ⟨m1,s⟩:=aA pl.length;have J:=aa s;rw [s] at H;obtain ⟨y,F⟩:=aA (wr.alloc (.cells #[.slice A1 m1 k1,.int .i64 n1,.bool q1] 41));have r:Bl wr y:=by rw [←F];go_grown
   have G:y.heap[wr.heap.size]?=some (.cells #[.slice A1 m1 k1,.int .i64 n1,.bool q1] 41 (0,0)):=by rw [←F];exact heap_alloc_new ..
   have y0:y.cell? ⟨wr.heap.size,0,none⟩=some (.slice A1 m1 k1):=(Lib.cell_of_heap G 0).trans rfl;have hys:wr.heap.size<y.heap.size:=by rw [←F];simp
   have B:=aa (ae l.out r);have C:Hid (y.ownsRow w.heap.size 27 1 v k (gt ((plD ys).take k))):=ao V.out r;have hsy:=B.out.size;clear d r G s
   go_wp2_with (at_builtin;refine wpList_append_own _ rfl _ _ 111 rfl w.heap.size 27 i0 (.slice none 0 0) 1 24 Tryz.underlying111 O S T U rfl (by decide) _ _ _ rfl (C.out.alloc _) ⟨y.heap.size,0,none⟩ 1 1 [.slice A1 m1 k1] rfl rfl bw (by intro u hu;simp at hu;subst hu;rfl) (by unfold maxLen;omega) (by omega) (by simp;omega) ?_)
   intro v' w4 i f _;have I:Hid (Bl w w4):=bB B.out C.out f;have K:Hid (w4.ownsRow w.heap.size 27 1 v' (k+1) (gt ((plD ys).take (k+1)))):=by
    show World.ownsRow ..
    have e:gt [(⟨pl,A1,k1⟩:PL)]=[.slice A1 m1 k1]:=by simp [gt,J.out]
    rw [m.out,cellsP_append,e];exact i
   clear i f;go_wp2_with fail
   go_roundg (ny-(k+1))
   case measure=>omega
   case rel=>exact ⟨k+1,v',by omega,rfl,by go_num,rfl,K,I⟩
  have Q:k=ny:=by omega
  subst Q;have HF:Hid (∃ A' q,v=.slice A' k q∧rT wr A' q (plD ys)):=by
   have M:=V.out;rw [List.take_of_length_le (by rw [plD_len,a.out];exact zT)] at M
   have E:∀ x∈plD ys,a7 wr x.A x.c x.p:=fun x hx=>by
    unfold plD at hx;obtain ⟨y,F,rfl⟩:=List.mem_map.1 hx;obtain ⟨j,z,rfl⟩:=List.getElem_of_mem F;obtain ⟨-,-,t | ⟨b,o,-,d⟩⟩:=W.out.later l.out
    ·rw [t] at z;simp at z
    have:=(d.2 j z).2.2.2;rw [zZ,zX z] at this;exact this
   rcases M.2 with ⟨rfl,t⟩ | ⟨g,cap,cur,rfl,hb,hg,hc,-⟩
   ·have Z:plD ys=[]:=List.eq_nil_of_length_eq_zero (by rw [plD_len,a.out];exact t)
    exact ⟨none,0,by rw [t],by rw [Z];exact zT,Or.inl Z,E⟩
   refine ⟨_,cap,rfl,by rw [plD_len,a.out];exact hc,Or.inr ⟨g,0,rfl,(zY hg).1,fun j z=>?_⟩,E⟩
   have:=M.cells (g:=g) rfl j (.slice ((plD ys).getD j ms).A ((plD ys).getD j ms).p.length ((plD ys).getD j ms).c) (by simp [gt,zX z])
   rw [aK] at this;exact this
  go_wp2_with fail;obtain ⟨A',q,rfl,hP⟩:=HF.out;go_ret;exact ⟨⟨A',q,rfl,hP⟩,l.out⟩
theorem xe (A0:Option Addr) (cap n:Nat) (D:Nat→Dm) (A:Nat→Option Addr) (C:Nat→Nat) (Ax:Option Addr) (cx:Nat) (ys:List EdL) (gC cC:Nat) (L:List (Int×Int)) (w0 w:World) (hl:ys.length≤60) (hp3:prodN D n≤3000) (hM:aY w0 A0 cap n D A C) (hX:km w0 Ax cx ys) (hB:Bl w0 w) (hg:w0.heap.size≤gC) (hC:bT w gC L) (hL:L.length=prodN D n) (hcc:prodN D n≤cC) (hI:∀ k,k<ys.length→InO D n (ys.getD k noD).x.pl) :
  Calls Tryz.prog 27 #[.agg #[.slice A0 n cap],.slice (some ⟨gC,0,none⟩) (prodN D n) cC,.slice Ax ys.length cx] w fun e w'=>e=.returned .nilIface∧bT w' gC (wrTo D n L (lD ys) ys.length)∧Bl w0 w':=by
 have s:=aq w A0 n cap 24;have hS:=aw w A0 n cap 24;have hA:=aI w A0 n cap 24;obtain ⟨W,hW⟩:=aA (ay w A0 n cap 24);rw [hW] at s hS hA;unfold ay at hW;have hgw:gC<w.heap.size:=hC.lt;have R:Hid (bT W gC (wrTo D n L (lD ys) 0)∧Bl w0 W∧W.cell? ⟨w.heap.size,0,none⟩=some (.slice A0 n cap)∧w.heap.size<W.heap.size):=⟨hC.later s,ae hB s,hA,by omega⟩
 have HX:=aa hX;obtain ⟨ny,u⟩:=aA ys.length;have I:=aa u;have J:Hid (∀ k w',k<ny→Bl w0 w'→∃ m:Nat,m<prodN D n∧wrTo D n L (lD ys) (k+1)=(wrTo D n L (lD ys) k).set m (JY (ys.getD k noD).x)∧(wrTo D n L (lD ys) k).length=prodN D n∧Rt 33 #[.agg #[.slice A0 n cap],.slice (ys.getD k noD).A (ys.getD k noD).x.pl.length (ys.getD k noD).c] w' (.tuple #[.int .i64 (m:Nat),.nilIface])):=fun k w' hk S=>by
  have q:k<ys.length:=by rw [u];exact hk
  have hi:=hI k q;have hbd:=ba hi (Nat.le_refl n);have hpl:a7 w' (ys.getD k noD).A (ys.getD k noD).c (ys.getD k noD).x.pl:=by
   obtain ⟨-,-,h0 | ⟨b,o,-,l⟩⟩:=hX.later S
   ·rw [h0] at q;simp at q
   exact (l.2 k q).2.2.2
  have h:=gS A0 cap n D A C _ _ _ w' (hM.later S) hpl;have hnv:numV D n (ys.getD k noD).x.pl=((numI D (ys.getD k noD).x.pl n).toNat:Nat):=by unfold numV;rw [if_pos hi.ok];omega
  rw [hi.ok,errV_zero,hnv] at h;refine ⟨_,by omega,?_,by rw [vR _ _ _ _ _ (by rw [lD_len];omega)];exact hL,h⟩
  rw [mJ _ _ _ _ (by rw [lD_len];exact q),wrE,su]
 have HOf:Hid (∀ x w',Rt 52 #[.int .i64 x] w' (.agg #[.int .i64 (eE x).1,.int .i64 (eE x).2])):=fun x w'=>jr x w'
 obtain ⟨N,hN⟩:=aA (prodN D n);rw [hN] at J hcc hp3 ⊢;rw [u] at hl ⊢;generalize wrTo D n L (lD ys)=LW at R J ⊢;have hlI:(ny:Int)≤60:=by omega
 have hNI:(N:Int)≤3000:=by omega
 have hcI:(N:Int)≤(cC:Int):=by omega
 clear hM hX hB hC hL hI s hS hA u hN
 go_enter Tryz.func27,Tryz.ntmps27
 go_wp2_with fail
 go_loopg [13] ny (fun gg s13 wr => ∃ k:Nat,k≤ny∧gg=ny-k∧s13=.int .i64 k∧Hid (bT wr gC (LW k)∧Bl w0 wr∧wr.cell? ⟨w.heap.size,0,none⟩=some (.slice A0 n cap)∧w.heap.size<wr.heap.size))
 case atStart=>exact ⟨0,zU,rfl,rfl,R⟩
 case round =>
  obtain ⟨k,hk,rfl,rfl,HK⟩:=hrel
  by_cases T:k<ny
  ·have hkx:k<ys.length:=by rw [I.out];exact T
   have hki:(k:Int)<(ny:Int):=by omega
   obtain ⟨M,K,c0,hsr⟩:=HK.out;obtain ⟨hcx,-,h0 | ⟨b,o,rfl,l⟩⟩:=HX.out.later K
   ·have:=I.out;rw [h0] at this;simp at this;omega
   obtain ⟨d0,d1,d2,-⟩:=l.2 k hkx;have hbl:b<wr.heap.size:=l.1;rw [I.out] at hcx;obtain ⟨y,z⟩:=aA (wr.alloc (.cells #[.slice (ys.getD k noD).A (ys.getD k noD).x.pl.length (ys.getD k noD).c,.int .i64 (ys.getD k noD).x.n,.bool (ys.getD k noD).x.clear] 41));have t:Bl wr y:=by rw [←z];go_grown
   have B:y.heap[wr.heap.size]?=some (.cells #[.slice (ys.getD k noD).A (ys.getD k noD).x.pl.length (ys.getD k noD).c,.int .i64 (ys.getD k noD).x.n,.bool (ys.getD k noD).x.clear] 41 (0,0)):=by rw [←z];exact heap_alloc_new ..
   have Y:y.cell? ⟨wr.heap.size,0,none⟩=some (.slice (ys.getD k noD).A (ys.getD k noD).x.pl.length (ys.getD k noD).c):=(Lib.cell_of_heap B 0).trans rfl;have Z:y.cell? ⟨wr.heap.size,1,none⟩=some (.int .i64 (ys.getD k noD).x.n):=(Lib.cell_of_heap B 1).trans rfl;have X:y.cell? ⟨wr.heap.size,2,none⟩=some (.bool (ys.getD k noD).x.clear):=(Lib.cell_of_heap B 2).trans rfl;have r:wr.heap.size<y.heap.size:=by rw [←z];simp
   have hgr:gC<wr.heap.size:=M.lt;have cy:=aD t hsr c0;have Q:=aa (M.later t);have G:=aa (ae K t);have v:w.heap.size<y.heap.size:=by omega
   obtain ⟨m,O,E,U,i⟩:=J.out k y T G.out;have g:=aa E;have H:=aa U;have hmI:(m:Int)<(N:Int):=by omega
   unfold JY at g;generalize (ys.getD k noD).A=A1 at d0 z Y i;generalize (ys.getD k noD).c=k1 at d0 z Y i;generalize (ys.getD k noD).x.n=n1 at d1 z Z g;generalize (ys.getD k noD).x.clear=q1 at d2 z X g;generalize (ys.getD k noD).x.pl.length=m1 at d0 z Y i;clear l t B M K E U;have P:Hid (∀ (w5:World) (a b:Int),bT w5 gC (LW k)→Bl w0 w5→w5.cell? ⟨w.heap.size,0,none⟩=some (.slice A0 n cap)→w.heap.size<w5.heap.size→LW (k+1)=(LW k).set m (a,b)→bT ((w5.setCell ⟨gC,m*2,none⟩ (.int .i64 a)).setCell ⟨gC,m*2+1,none⟩ (.int .i64 b)) gC (LW (k+1))∧Bl w0 ((w5.setCell ⟨gC,m*2,none⟩ (.int .i64 a)).setCell ⟨gC,m*2+1,none⟩ (.int .i64 b))∧((w5.setCell ⟨gC,m*2,none⟩ (.int .i64 a)).setCell ⟨gC,m*2+1,none⟩ (.int .i64 b)).cell? ⟨w.heap.size,0,none⟩=some (.slice A0 n cap)∧w.heap.size<((w5.setCell ⟨gC,m*2,none⟩ (.int .i64 a)).setCell ⟨gC,m*2+1,none⟩ (.int .i64 b)).heap.size):=fun w5 a b h1 h2 h3 h4 h5 =>
    ⟨by rw [h5];exact h1.set (by rw [H.out];exact O) a b,(h2.setCell hg _).setCell hg _,yI (by omega) h3 _ _,by rw [yJ];exact h4⟩
   go_wp2_with fail;refine i.mono ?_;rintro e w3 ⟨rfl,d⟩;clear i Y z;cases q1
   ·have z1:=aD d r Z
    have z2:=aD d r X;have cz:=aD d v cy;have KH:=aa (Q.out.later d);have KG:=aa (ae G.out d);have hs3:wr.heap.size<w3.heap.size:=zW r d.size;have F:w.heap.size<w3.heap.size:=zW v d.size;have V:=HOf.out n1 w3;clear d Z X;go_wp2_with fail;refine V.mono ?_;rintro e w5 ⟨rfl,p⟩;have f:=KH.out.later p;obtain ⟨r0,r1⟩:=f.at (k:=m) (by rw [H.out];exact O)
    have f0:=f.frozen (m*2);have f1:=f.frozen (m*2+1);have hgl:=f.lt;have j:=aa (P.out w5 (eE n1).1 (eE n1).2 f (ae KG.out p) (aD p F cz) (zW F p.size) (by rw [g.out];rfl))
    clear p V f;go_wp2_with fail
    go_roundg (ny-(k+1))
    case measure=>omega
    case rel=>exact ⟨k+1,by omega,rfl,by go_num,j⟩
   have z2:=aD d r X;have f:=Q.out.later d;obtain ⟨r0,r1⟩:=f.at (k:=m) (by rw [H.out];exact O)
   have f0:=f.frozen (m*2);have f1:=f.frozen (m*2+1);have hgl:=f.lt;have hs3:wr.heap.size<w3.heap.size:=zW r d.size;have j:=aa (P.out w3 0 0 f (ae G.out d) (aD d v cy) (zW v d.size) (by rw [g.out];rfl))
   clear d Z X f;go_wp2_with fail
   go_roundg (ny-(k+1))
   case measure=>omega
   case rel=>exact ⟨k+1,by omega,rfl,by go_num,j⟩
  have hke:k=ny:=by omega
  subst hke;go_wp2_with fail;go_ret;exact ⟨rfl,HK.out.1,HK.out.2.1⟩
end Go.Proofs.YtompdcaikmekkaaGreatDoor
