/- Edits of a hall (plain -/
import Derived.Test.YtjfampgnhccodaaGreatDoorJTBL
namespace Go.Proofs.YtjfampgnhccodaaGreatDoor
open Tryz ChangeShapes WideShapes ChangeAt RowKit
set_option maxRecDepth 99999
set_option maxHeartbeats 0
def OM(x:Ed):Int×Int:=if x.clear=true then(0,0)else iI x.n
def wrE(D:Nat->Dm)(n:Nat)(L:List (Int×Int))(x:Ed):List (Int×Int):=L.set (numI D x.pl n).toNat (OM x)
def wrTo(D:Nat->Dm)(n:Nat)(L:List (Int×Int))(Y:List Ed)(k:Nat):List (Int×Int):=(Y.take k).foldl (wrE D n) L
theorem nR(D:Nat->Dm)(n:Nat)(L:List (Int×Int))(Y:List Ed){k:Nat}(a:k<Y.length):wrTo D n L Y (k+1)=wrE D n (wrTo D n L Y k) (Y.getD k uD):=by
 unfold wrTo;rw[List.take_succ_eq_append_getElem a,List.foldl_append,zZ,zX a]
 rfl
theorem yX(D:Nat->Dm)(n:Nat)(L:List (Int×Int))(Y:List Ed):∀k,k<=Y.length->(wrTo D n L Y k).length=L.length
 | 0,_=>rfl
 |k+1,h=>by rw[nR D n L Y ω,wrE,List.length_set,yX D n L Y k ω]
theorem uE:∀(A B:List Int),A.Nodup->(∀x∈A,x∈B)->A.length<=B.length
 | [],_,_,_=>zU
 |a :: r,B,hA,h=>by
  obtain⟨d,f⟩:=List.nodup_cons.1 hA;have b:=h a (List.mem_cons_self ..);have g:0<B.length:=List.length_pos_of_mem b;have:=uE r (B.erase a) f fun x c=>(List.mem_erase_of_ne (fun e=>d (by rw[←e];exact c))).2 (h x (List.mem_cons_of_mem _ c))
  rw[List.length_erase_of_mem b]at this;rw[List.length_cons]
  omega
section
variable {D:Nat->Dm} {n:Nat}
theorem kh{l:List En}{x:Ed}(c:Ens D n l)(h:editErr D n l x=0):aK D n x.pl=0/\leafV D n x.pl=true/\(x.clear=true->hasE l x.pl=true)/\(x.clear=false->dE x.n=true):=by
 unfold editErr at h
 split at h
 ·rename_i h1;exact absurd h h1
 rename_i h1
 refine⟨by simpa using h1,?_⟩
 split at h
 ·rename_i h2
  split at h
  ·rename_i h3
   obtain⟨-,a,b⟩:=vg h3 0;have d:l.getD (cntE l x.pl) noEn∈l:=by rw[zZ,zX a];exact List.getElem_mem a
   have:=(c.each _ d).2.1;rw[b]at this;exact⟨this,fun _=>h3,fun e=>by rw[h2]at e;cases e⟩
  cases h
 rename_i h2
 split at h
 ·cases h
 rename_i h3
 split at h
 ·cases h
 rename_i a
 exact⟨by simpa using h3,fun e=>absurd e h2,fun _=>by simpa using a⟩
theorem qb{l:List En}{x:Ed}(b:Ens D n l)(h:editErr D n l x=0)(q:List Int):getE (editV l x) q=if q=x.pl then OM x else getE l q:=by
 obtain⟨-,-,c,d⟩:=kh b h;unfold editV OM
 by_cases a:x.clear=true
 ·rw[if_pos a,if_pos a]
  by_cases e:q=x.pl
  ·rw[if_pos e,e]
   exact(b.gone (c a)).1
  rw[if_neg e];obtain⟨g1,g2,-⟩:=mQ b.rise x.pl (c a);refine wU g1 b.rise fun y f=>?_
  rw[g2];exact⟨fun h=>h.1,fun h=>⟨h,by rw[f];exact e⟩⟩
 rw[if_neg a,if_neg a]
 by_cases e:q=x.pl
 ·rw[if_pos e,e,(b.there _ _).1]
  have:=d (by simpa using a)
  unfold dE at this;simp only[Bool.and_eq_true,decide_eq_true_eq]at this;unfold iI;rw[if_pos ⟨ω,ω⟩]
 rw[if_neg e];exact b.else e _
theorem yb{j:Nat}{p:List Int}(a:InO D n p)(b:j<prodN D n)(h:j≠(numI D p n).toNat):ah D n j≠p:=fun e=>h (by
 have:=nj a.right b;rw[e]at this
 omega)
def M4(D:Nat->Dm)(n:Nat)(l l':List En)(L:List (Int×Int)):Prop:=L.length=prodN D n/\∀j:Nat,j<prodN D n->(byTo D (ah D n j) n<0->L.getD j noC=getE l' (ah D n j))/\(¬byTo D (ah D n j) n<0->L.getD j noC=gN D n (getE l) (ah D n j))
theorem M4.start{l:List En}(b:(au D n).2.2=0)(a:Ens D n l):M4 D n l l (caL D n l):=by
 refine⟨fZ (iD b a),fun j c=>⟨fun h=>?_,fun _=>pM (iD b a) c⟩⟩
 rw[pM (iD b a) c,gL _ h]
theorem M4.step{l l':List En}{L:List (Int×Int)}{x:Ed}(h:M4 D n l l' L)(b:Ens D n l')(c:editErr D n l' x=0):M4 D n l (editV l' x) (wrE D n L x):=by
 obtain⟨q,k,-,-⟩:=kh b c;have a:=(b.edit c).1;have d:byTo D x.pl n = -1:=by
  have:=Dk (D:=D) (n:=n) a.ok;rw[k]at this
  simpa using this.symm
 have m:=bQ a (Nat.le_refl n);refine⟨by rw[wrE,List.length_set];exact h.1,fun j g=>?_⟩
 by_cases e:j=(numI D x.pl n).toNat
 ·have p:ah D n j=x.pl:=by rw[e];exact iO a
  rw[p];refine⟨fun _=>?_,fun o=>absurd (by rw[d];decide) o⟩
  rw[qb b c,if_pos rfl,wrE,zZ,e,List.getElem?_set_self (by rw[h.1];omega)]
  rfl
 have f:=yb a g e;rw[qb b c,if_neg f,wrE,zZ,List.getElem?_set_ne (fun i=>e i.symm),←zZ]
 exact h.2 j g
theorem KG{l:List En}{Y:List Ed}(c:(au D n).2.2=0)(a:Ens D n l)(h:doE D n l Y=0):∀k,k<=Y.length->M4 D n l (lL l Y k) (wrTo D n (caL D n l) Y k)
 | 0,_=>M4.start c a
 |k+1,hk=>by
  obtain⟨-,-,b⟩:=kX a h;rw[nR _ _ _ _ ω,mV _ _ ω]
  exact(KG c a h k ω).step (b k ω).2 (b k ω).1
def ef(D:Nat->Dm)(n:Nat)(Y:List Ed):List Int:=Y.map fun x=>numI D x.pl n
theorem L2{Y:List Ed}{k:Nat}(a:k<Y.length):numI D (Y.getD k uD).pl n∈ef D n Y:=List.mem_map.2 ⟨Y.getD k uD,by rw[zZ,zX a];exact List.getElem_mem a,rfl⟩
theorem sR{l:List En}{Y:List Ed}(p:(au D n).2.2=0)(o:Ens D n l)(h:doE D n l Y=0){i:Nat}(b:i<prodN D n)(g:(i:Int)∉drtL D n (ef D n Y)):∀k,k<=Y.length->gN D n (getE (lL l Y k)) (ah D n i)=gN D n (getE l) (ah D n i)
 | 0,_=>rfl
 |k+1,hk=>by
  obtain⟨r,s⟩:=dZ p;obtain⟨-,-,q⟩:=kX o h;obtain⟨d,e⟩:=q k ω
  have f:=(e.edit d).1;have a:=bQ f (Nat.le_refl n);rw[←sR p o h b g k ω,mV _ _ ω]
  refine Gc s r (m:=(numI D (Y.getD k uD).pl n).toNat) (fun j t c=>?_) _ i b (Nat.lt_succ_self _) fun u=>g ?_
  ·rw[qb e d,if_neg (yb f t c)]
  unfold drtL;rw[Mu b,p9];exact⟨_,by rw[Int.toNat_of_nonneg a.1];exact L2 ω,u⟩
def DW(D:Nat->Dm)(n:Nat)(l':List En)(DR O:List Int)(k:Nat)(L:List (Int×Int)):Prop:=L.length=prodN D n/\∀j:Nat,j<prodN D n->(byTo D (ah D n j) n<0->L.getD j noC=getE l' (ah D n j))/\((j:Int)∈O.take k\/(j:Int)∉DR->L.getD j noC=gN D n (getE l') (ah D n j))
theorem D3{l:List En}{Y:List Ed}(f:(au D n).2.2=0)(e:Ens D n l)(h:doE D n l Y=0)(O:List Int):DW D n (doL D n l Y) (drtL D n (ef D n Y)) O 0 (wrTo D n (caL D n l) Y Y.length):=by
 obtain⟨-,g,-⟩:=kX e h;have b:=KG f e h Y.length zT;rw[g];refine⟨b.1,fun j a=>⟨(b.2 j a).1,fun i=>?_⟩⟩
 have d:(j:Int)∉drtL D n (ef D n Y):=i.resolve_left σ
 by_cases c:byTo D (ah D n j) n<0
 ·rw[(b.2 j a).1 c,gL _ c]
 rw[(b.2 j a).2 c,sR f e h a d _ zT]
theorem GN{l':List En}{DR:List Int}{k:Nat}{L:List (Int×Int)}(w:(au D n).2.2=0)(C:Ens D n l')(B:k<prodN D n)(h:DW D n l' DR (coL D n) k L):∃m:Nat,(coL D n).getD k 0=(m:Int)/\m<prodN D n/\(∀z∈ndsX D n m,dq (L.getD z.toNat noC))/\DW D n l' DR (coL D n) (k+1) (L.set m (rW D n L m))/\(o9 DR (m:Int)=false->DW D n l' DR (coL D n) (k+1) L)/\(coL D n).take (k+1)=(coL D n).take k++[(m:Int)]:=by
 obtain⟨b,c⟩:=dZ w;obtain⟨m,t,a,x,u,p⟩:=Bt (fg c b) (fG c b) (k:=k) (by rw[bG];exact B)
 have A:av (rowsL D n) (prodN D n)=coL D n:=by unfold coL;rw[if_pos w]
 rw[bG,A]at t x u p;rw[bG]at a;have l:∀z∈ndsX D n m,∃y:Nat,z=(y:Int)/\y<prodN D n/\(y:Int)∈(coL D n).take k:=fun z f=>by
  obtain⟨y,rfl,r⟩:=Bk c b a z f;refine⟨y,rfl,r,u _ ?_⟩;have E:=iG c b a;rw[my a,←mC c b E,(List.mergeSort_perm _ _).mem_iff];exact f
 have g:∀z∈ndsX D n m,L.getD z.toNat noC=gN D n (getE l') (ah D n z.toNat):=fun z f=>by
  obtain⟨y,rfl,r,s⟩:=l z f;rw[Int.toNat_natCast];exact(h.2 y r).2 (Or.inl s)
 have o:=Kp c b a (fun q=>(h.2 m a).1 q) g
 have hcut:∀j:Nat,j≠m->((j:Int)∈(coL D n).take (k+1)↔(j:Int)∈(coL D n).take k):=fun j e=>by
  rw[p,List.mem_append,List.mem_singleton];exact⟨fun h=>h.resolve_right ω,Or.inl⟩
 refine⟨m,t,a,fun z f=>?_,⟨by rw[List.length_set];exact h.1,fun j d=>?_⟩,fun v=>⟨h.1,fun j d=>⟨(h.2 j d).1,fun i=>?_⟩⟩,p⟩
 ·rw[g z f]
  exact qn c (mZ C) _ _ (dp b) (Nat.lt_succ_self _)
 ·by_cases e:j=m
  ·subst e
   rw[zZ,List.getElem?_set_self (by rw[h.1];exact d)]
   exact⟨fun q=>by rw[Option.getD_some,o,gL _ q],fun _=>o⟩
  rw[zZ,List.getElem?_set_ne (fun h=>e h.symm),←zZ,hcut j e]
  exact h.2 j d
 by_cases e:j=m
 ·subst e
  exact(h.2 j d).2 (Or.inr (by unfold o9 at v;rwa [decide_eq_false_iff_not]at v))
 rw[hcut j e]at i;exact(h.2 j d).2 i
theorem pV(c:(au D n).2.2=0):(coL D n).length=prodN D n:=by
 obtain⟨a,b⟩:=dZ c;unfold coL;rw[if_pos c];exact d8 (fg b a) (fG b a) (prodN D n) (by rw[bG];exact zT)
theorem Hj(c:(au D n).2.2=0){j:Nat}(e:j<prodN D n):(j:Int)∈coL D n:=by
 have a:(coL D n).Nodup/\∀x∈coL D n,0<=x/\x<((rowsL D n).length:Int):=by unfold coL;rw[if_pos c];exact qV _ _
 refine Classical.byContradiction fun d=>?_
 have:=few (prodN D n) ((j:Int):: coL D n) (List.nodup_cons.2 ⟨d,a.1⟩) fun x b=>by
  rcases List.mem_cons.1 b with rfl|b
  ·omega
  have:=a.2 x b;rw[bG]at this;exact this
 rw[List.length_cons,pV c]at this
 omega
theorem KV{l':List En}{DR:List Int}{L:List (Int×Int)}(a:(au D n).2.2=0)(c:Ens D n l')(h:DW D n l' DR (coL D n) (prodN D n) L):L=caL D n l' :=
 MV (iD a c) h.1 fun j b=>(h.2 j b).2 (Or.inl (by rw[List.take_of_length_le (by rw[pV a];exact zT)];exact Hj a b))
def cntD(DR O:List Int)(k:Nat):Nat:=((O.take k).filter fun x=>o9 DR x).length
theorem K7(DR O:List Int)(k:Nat):cntD DR O k<=k:=zV (List.length_filter_le _ _) (by rw[List.length_take];omega)
theorem K9{DR O:List Int}{k:Nat}{z:Int}(h:O.take (k+1)=O.take k++[z])(a:o9 DR z=true):cntD DR O (k+1)=cntD DR O k+1:=by unfold cntD;rw[h,List.filter_append];simp[a]
theorem Hi{DR O:List Int}{k:Nat}{z:Int}(h:O.take (k+1)=O.take k++[z])(a:o9 DR z=false):cntD DR O (k+1)=cntD DR O k:=by unfold cntD;rw[h,List.filter_append];simp[a]
theorem K8{f:Nat->Bool}(d:(au D n).2.2=0):cntD (selTo f (prodN D n)) (coL D n) (prodN D n)=(selTo f (prodN D n)).length:=by
 have b:(coL D n).Nodup:=by unfold coL;rw[if_pos d];exact(qV _ _).1
 have c:(selTo f (prodN D n)).Nodup:=(gK f (prodN D n)).imp fun h=>ω
 unfold cntD;rw[List.take_of_length_le (by rw[pV d];exact zT)]
 refine Nat.le_antisymm (uE _ _ (b.filter _) fun x a=>?_) (uE _ _ c fun x a=>?_)
 ·have:=(List.mem_filter.1 a).2
  unfold o9 at this
  simpa using this
 obtain⟨m,rfl,e,-⟩:=dy x a;exact List.mem_filter.2 ⟨Hj d e,by unfold o9;simpa using a⟩
theorem DN:∀Q:List (List Int),(∀q∈Q,aK D n q=0)->shTo D n Q=0
 | [],_=>rfl
 |q :: r,h=>by
  unfold shTo;rw[if_neg (by simpa using h q (List.mem_cons_self ..))]
  exact DN r fun x a=>h x (List.mem_cons_of_mem _ a)
theorem zy{l:List En}{Y:List Ed}(p:(au D n).2.2=0)(o:Ens D n l)(h:doE D n l Y=0):y6 D n (Y.map Ed.pl)=0/\GB D n (Y.map Ed.pl)=drtL D n (ef D n Y)/\doN D n l Y=(drtL D n (ef D n Y)).length:=by
 obtain⟨-,-,j⟩:=kX o h;have b:∀q∈Y.map Ed.pl,aK D n q=0/\leafV D n q=true:=fun q b=>by
  obtain⟨x,r,rfl⟩:=List.mem_map.1 b;obtain⟨k,g,e⟩:=List.getElem_of_mem r;obtain⟨c,d⟩:=j k g;have i:Y.getD k uD=x:=by rw[zZ,zX g,e];rfl
  rw[i]at c;exact⟨(kh d c).1,(kh d c).2.1⟩
 have s:zD D n (Y.map Ed.pl)=0:=by
  unfold zD;rw[if_neg (by simpa using DN _ fun q h=>(b q h).1),if_neg]
  rw[List.any_eq_true];rintro⟨q,m,f⟩;rw[(b q m).2]at f;cases f
 have a:y6 D n (Y.map Ed.pl)=0:=by unfold y6;rw[if_neg (by simpa using p)];exact s
 refine⟨a,?_,by unfold doN;rw[if_pos h];rfl⟩
 unfold GB lJ ef;rw[if_pos a,List.map_map]
 rfl
end
def plD(ys:List EdL):List PL:=ys.map fun y=>⟨y.x.pl,y.A,y.c⟩
theorem plD_len(ys:List EdL):(plD ys).length=ys.length:=by simp[plD]
theorem NI(ys:List EdL):lP (plD ys)=(lD ys).map Ed.pl:=by simp[lP,plD,lD,Function.comp_def]
theorem Jw(ys:List EdL){k:Nat}(a:k<ys.length):(plD ys).take (k+1)=(plD ys).take k++[⟨(ys.getD k di).x.pl,(ys.getD k di).A,(ys.getD k di).c⟩]:=by
 rw[List.take_succ_eq_append_getElem (by rw[plD_len];exact a)]
 simp[plD,zX a]
theorem II(ys:List EdL)(k:Nat):(lD ys).getD k uD=(ys.getD k di).x:=by
 unfold lD;rw[zZ,zZ,List.getElem?_map];cases ys[k]? <;>rfl
theorem F6{w:World}{g x q:Nat}(h:q≠g)(a b:Value):((w.setCell ⟨g,x,none⟩ a).setCell ⟨g,x+1,none⟩ b).heap[q]?=w.heap[q]?:=(ae _ _ _ _ _ h).trans (ae _ _ _ _ _ h)
theorem Cd{w:World}{g x q o:Nat}{v:Value}(h:q≠g)(c:w.cell? ⟨q,o,none⟩=some v)(a b:Value):((w.setCell ⟨g,x,none⟩ a).setCell ⟨g,x+1,none⟩ b).cell? ⟨q,o,none⟩=some v:=(World.cell?_of_block (a:=⟨q,o,none⟩) (F6 h a b)).trans c
theorem Ce{w:World}{g x:Nat}(a b:Value):((w.setCell ⟨g,x,none⟩ a).setCell ⟨g,x+1,none⟩ b).heap.size=w.heap.size:=by simp
theorem uY(Ax:Option Addr)(X:Nat)(ys:List EdL)(w:World)(hl:ys.length<=60)(Y:oQ w Ax X ys):
  Calls prog 74 #[.slice Ax ys.length X] w fun e w'=>(∃A' q,e=.returned (.slice A' ys.length q)/\t7 w' A' q (plD ys))/\Bl w w':=by
 obtain⟨i0,O,S,T,U⟩:=info_parts infoPla;have W:=aa Y;obtain⟨ny,h⟩:=ar ys.length;have a:=aa h;have L:Hid (∀k,k<ny->(plD ys).take (k+1)=(plD ys).take k++[⟨(ys.getD k di).x.pl,(ys.getD k di).A,(ys.getD k di).c⟩]):=fun k P=>Jw ys (by rw[h];exact P)
 have ab:Hid (∀k,k<=ny->((plD ys).take k).length=k):=fun k P=>by rw[List.length_take,plD_len,h];omega
 rw[h]at hl|-;have ag:(ny:Int)<=60:=ω;clear Y h
 go_enter func74,ntmps74
 go_wp2_with fail
 go_loopg [3,8] ny (fun gg s3 s8 wr =>∃(k:Nat) (v:Value),k<=ny/\gg=ny-k/\s8=.int .i64 k/\v=s3/\Hid (wr.ownsRow w.heap.size 43 1 v k (gA ((plD ys).take k)))/\Hid (Bl w wr))
 case atStart=>exact⟨0,_,zU,rfl,rfl,rfl,aa (by simpa [gA]using World.ownsRow_nil _ _ _ _),zS⟩
 case round =>
  obtain⟨k,v,P,rfl,rfl,rfl,V,l⟩:=hrel
  by_cases D:k<ny
  ·have R:k<ys.length:=by rw[a.o];exact D
   have af:(k:Int)<(ny:Int):=ω;obtain⟨N,-,t|⟨b,o,rfl,d⟩⟩:=W.o.later l.o
   ·have:=a.o;rw[t]at this;simp at this;omega
   obtain⟨H,d1,d2,-⟩:=d.2 k R;have ae:b<wr.heap.size:=d.1;have m:=aa (L.o k D);rw[a.o]at N;generalize (ys.getD k di).A=A1 at H m;generalize (ys.getD k di).c=k1 at H m;generalize (ys.getD k di).x.n=n1 at d1;generalize (ys.getD k di).x.clear=q1 at d2;generalize (ys.getD k di).x.pl=pl at H m;obtain⟨m1,s⟩:=ar pl.length;have J:=aa s;rw[s]at H;obtain⟨y,F⟩:=ar (wr.alloc (.cells #[.slice A1 m1 k1,.int .i64 n1,.bool q1] 47));have r:Bl wr y:=by rw[←F];go_grown
   have G:y.heap[wr.heap.size]?=some (.cells #[.slice A1 m1 k1,.int .i64 n1,.bool q1] 47 (0,0)):=by rw[←F];exact heap_alloc_new ..
   have y0:y.cell? ⟨wr.heap.size,0,none⟩=some (.slice A1 m1 k1):=(Lib.cell_of_heap G 0).trans rfl;have ai:wr.heap.size<y.heap.size:=by rw[←F];simp
   have B:=aa (ad l.o r);have C:Hid (y.ownsRow w.heap.size 43 1 v k (gA ((plD ys).take k))):=ak V.o r;have ah:=B.o.size;clear d r G s
   go_wp2_with (at_builtin;refine wpList_append_own _ rfl _ _ 155 rfl w.heap.size 43 i0 (.slice none 0 0) 1 24 underlying155 O S T U rfl (by decide) _ _ _ rfl (C.o.alloc _) ⟨y.heap.size,0,none⟩ 1 1 [.slice A1 m1 k1] rfl rfl da (by intro u hu;simp at hu;subst hu;rfl) (by unfold maxLen;omega) ω (by simp;omega) ?_)
   intro v' w4 i f _;have I:Hid (Bl w w4):=dk B.o C.o f;have K:Hid (w4.ownsRow w.heap.size 43 1 v' (k+1) (gA ((plD ys).take (k+1)))):=by
    show World.ownsRow ..
    have e:gA [(⟨pl,A1,k1⟩:PL)]=[.slice A1 m1 k1]:=by simp[gA,J.o]
    rw[m.o,cellsP_append,e];exact i
   clear i f;go_wp2_with fail
   go_roundg (ny-(k+1))
   case measure=>omega
   case rel=>exact⟨k+1,v',ω,rfl,by go_num,rfl,K,I⟩
  have Q:k=ny:=ω;subst Q;have HF:Hid (∃A' q,v=.slice A' k q/\t7 wr A' q (plD ys)):=by
   have M:=V.o;rw[List.take_of_length_le (by rw[plD_len,a.o];exact zT)]at M
   have E:∀x∈plD ys,de wr x.A x.c x.p:=fun x hx=>by
    unfold plD at hx;obtain⟨y,F,rfl⟩:=List.mem_map.1 hx;obtain⟨j,z,rfl⟩:=List.getElem_of_mem F;obtain⟨-,-,t|⟨b,o,-,d⟩⟩:=W.o.later l.o
    ·rw[t]at z;simp at z
    have:=(d.2 j z).2.2.2;rw[zZ,zX z]at this;exact this
   rcases M.2 with⟨rfl,t⟩|⟨g,cap,ac,rfl,hb,hg,hc,-⟩
   ·have Z:plD ys=[]:=List.eq_nil_of_length_eq_zero (by rw[plD_len,a.o];exact t)
    exact⟨none,0,by rw[t],by rw[Z];exact zT,Or.inl Z,E⟩
   refine⟨_,cap,rfl,by rw[plD_len,a.o];exact hc,Or.inr ⟨g,0,rfl,(zY hg).1,fun j z=>?_⟩,E⟩
   have:=M.cells (g:=g) rfl j (.slice ((plD ys).getD j ni).A ((plD ys).getD j ni).p.length ((plD ys).getD j ni).c) (by simp[gA,zX z])
   rw[aW]at this;exact this
  go_wp2_with fail;obtain⟨A',q,rfl,hP⟩:=HF.o;go_ret;exact⟨⟨A',q,rfl,hP⟩,l.o⟩
theorem AD(A0:Option Addr)(cap n:Nat)(D:Nat->Dm)(A:Nat->Option Addr)(C:Nat->Nat)(Ax:Option Addr)(cx:Nat)(ys:List EdL)(gC cC:Nat)(L:List (Int×Int))(w0 w:World)(hl:ys.length<=60)(aj:prodN D n<=3000)(hM:aL w0 A0 cap n D A C)(hX:oQ w0 Ax cx ys)(hB:Bl w0 w)(hg:w0.heap.size<=gC)(hC:cB w gC L)(hL:L.length=prodN D n)(ac:prodN D n<=cC)(hI:∀k,k<ys.length->InO D n (ys.getD k di).x.pl):
  Calls prog 32 #[.agg #[.slice A0 n cap],.slice (some ⟨gC,0,none⟩) (prodN D n) cC,.slice Ax ys.length cx] w fun e w'=>e=.returned .nilIface/\cB w' gC (wrTo D n L (lD ys) ys.length)/\Bl w0 w':=by
 have s:=ay w A0 n cap 24;have hS:=aB w A0 n cap 24;have hA:=aU w A0 n cap 24;obtain⟨W,hW⟩:=ar (aE w A0 n cap 24);rw[hW]at s hS hA;unfold aE at hW;have aw:gC<w.heap.size:=hC.lt;have R:Hid (cB W gC (wrTo D n L (lD ys) 0)/\Bl w0 W/\W.cell? ⟨w.heap.size,0,none⟩=some (.slice A0 n cap)/\w.heap.size<W.heap.size):=⟨hC.later s,ad hB s,hA,ω⟩
 have HX:=aa hX;obtain⟨ny,u⟩:=ar ys.length;have I:=aa u;have J:Hid (∀k w',k<ny->Bl w0 w'->∃m:Nat,m<prodN D n/\wrTo D n L (lD ys) (k+1)=(wrTo D n L (lD ys) k).set m (OM (ys.getD k di).x)/\(wrTo D n L (lD ys) k).length=prodN D n/\Rt 64 #[.agg #[.slice A0 n cap],.slice (ys.getD k di).A (ys.getD k di).x.pl.length (ys.getD k di).c] w' (.tuple #[.int .i64 (m:Nat),.nilIface])):=fun k w' hk S=>by
  have q:k<ys.length:=by rw[u];exact hk
  have hi:=hI k q;have ap:=bQ hi (Nat.le_refl n);have ak:de w' (ys.getD k di).A (ys.getD k di).c (ys.getD k di).x.pl:=by
   obtain⟨-,-,h0|⟨b,o,-,l⟩⟩:=hX.later S
   ·rw[h0]at q;simp at q
   exact(l.2 k q).2.2.2
  have h:=jX A0 cap n D A C _ _ _ w' (hM.later S) ak;have ai:numV D n (ys.getD k di).x.pl=((numI D (ys.getD k di).x.pl n).toNat:Nat):=by unfold numV;rw[if_pos hi.ok];omega
  rw[hi.ok,errV_zero,ai]at h;refine⟨_,ω,?_,by rw[yX _ _ _ _ _ (by rw[ij];omega)];exact hL,h⟩
  rw[nR _ _ _ _ (by rw[ij];exact q),wrE,II]
 have ab:Hid (∀x w',Rt 18 #[.int .i64 x] w' (.agg #[.int .i64 (iI x).1,.int .i64 (iI x).2])):=fun x w'=>jk x w'
 obtain⟨N,hN⟩:=ar (prodN D n);rw[hN]at J ac aj|-;rw[u]at hl|-;generalize wrTo D n L (lD ys)=LW at R J|-;have az:(ny:Int)<=60:=ω;have ao:(N:Int)<=3000:=ω;have au:(N:Int)<=(cC:Int):=ω;clear hM hX hB hC hL hI s hS hA u hN
 go_enter func32,ntmps32
 go_wp2_with fail
 go_loopg [13] ny (fun gg an wr =>∃k:Nat,k<=ny/\gg=ny-k/\an=.int .i64 k/\Hid (cB wr gC (LW k)/\Bl w0 wr/\wr.cell? ⟨w.heap.size,0,none⟩=some (.slice A0 n cap)/\w.heap.size<wr.heap.size))
 case atStart=>exact⟨0,zU,rfl,rfl,R⟩
 case round =>
  obtain⟨k,hk,rfl,rfl,HK⟩:=hrel
  by_cases T:k<ny
  ·have ah:k<ys.length:=by rw[I.o];exact T
   have ax:(k:Int)<(ny:Int):=ω;obtain⟨M,K,c0,am⟩:=HK.o;obtain⟨ae,-,h0|⟨b,o,rfl,l⟩⟩:=HX.o.later K
   ·have:=I.o;rw[h0]at this;simp at this;omega
   obtain⟨d0,d1,d2,-⟩:=l.2 k ah;have aq:b<wr.heap.size:=l.1;rw[I.o]at ae;obtain⟨y,z⟩:=ar (wr.alloc (.cells #[.slice (ys.getD k di).A (ys.getD k di).x.pl.length (ys.getD k di).c,.int .i64 (ys.getD k di).x.n,.bool (ys.getD k di).x.clear] 47));have t:Bl wr y:=by rw[←z];go_grown
   have B:y.heap[wr.heap.size]?=some (.cells #[.slice (ys.getD k di).A (ys.getD k di).x.pl.length (ys.getD k di).c,.int .i64 (ys.getD k di).x.n,.bool (ys.getD k di).x.clear] 47 (0,0)):=by rw[←z];exact heap_alloc_new ..
   have Y:y.cell? ⟨wr.heap.size,0,none⟩=some (.slice (ys.getD k di).A (ys.getD k di).x.pl.length (ys.getD k di).c):=(Lib.cell_of_heap B 0).trans rfl;have Z:y.cell? ⟨wr.heap.size,1,none⟩=some (.int .i64 (ys.getD k di).x.n):=(Lib.cell_of_heap B 1).trans rfl;have X:y.cell? ⟨wr.heap.size,2,none⟩=some (.bool (ys.getD k di).x.clear):=(Lib.cell_of_heap B 2).trans rfl;have r:wr.heap.size<y.heap.size:=by rw[←z];simp
   have av:gC<wr.heap.size:=M.lt;have cy:=aM t am c0;have Q:=aa (M.later t);have G:=aa (ad K t);have v:w.heap.size<y.heap.size:=ω;obtain⟨m,O,E,U,i⟩:=J.o k y T G.o;have g:=aa E;have H:=aa U;have aA:(m:Int)<(N:Int):=ω;unfold OM at g;generalize (ys.getD k di).A=A1 at d0 z Y i;generalize (ys.getD k di).c=k1 at d0 z Y i;generalize (ys.getD k di).x.n=n1 at d1 z Z g;generalize (ys.getD k di).x.clear=q1 at d2 z X g;generalize (ys.getD k di).x.pl.length=m1 at d0 z Y i;clear l t B M K E U;have P:Hid (∀(w5:World) (a b:Int),cB w5 gC (LW k)->Bl w0 w5->w5.cell? ⟨w.heap.size,0,none⟩=some (.slice A0 n cap)->w.heap.size<w5.heap.size->LW (k+1)=(LW k).set m (a,b)->cB ((w5.setCell ⟨gC,m*2,none⟩ (.int .i64 a)).setCell ⟨gC,m*2+1,none⟩ (.int .i64 b)) gC (LW (k+1))/\Bl w0 ((w5.setCell ⟨gC,m*2,none⟩ (.int .i64 a)).setCell ⟨gC,m*2+1,none⟩ (.int .i64 b))/\((w5.setCell ⟨gC,m*2,none⟩ (.int .i64 a)).setCell ⟨gC,m*2+1,none⟩ (.int .i64 b)).cell? ⟨w.heap.size,0,none⟩=some (.slice A0 n cap)/\w.heap.size<((w5.setCell ⟨gC,m*2,none⟩ (.int .i64 a)).setCell ⟨gC,m*2+1,none⟩ (.int .i64 b)).heap.size):=fun w5 a b h1 h2 h3 h4 h5 =>
    ⟨by rw[h5];exact h1.set (by rw[H.o];exact O) a b,(h2.setCell hg _).setCell hg _,Cd ω h3 _ _,by rw[Ce];exact h4⟩
   go_wp2_with fail;refine i.mono ?_;rintro e w3⟨rfl,d⟩;clear i Y z;cases q1
   ·have z1:=aM d r Z
    have z2:=aM d r X;have cz:=aM d v cy;have PU:=aa (Q.o.later d);have PT:=aa (ad G.o d);have al:wr.heap.size<w3.heap.size:=zW r d.size;have F:w.heap.size<w3.heap.size:=zW v d.size;have V:=ab.o n1 w3;clear d Z X;go_wp2_with fail;refine V.mono ?_;rintro e w5⟨rfl,p⟩;have f:=PU.o.later p;obtain⟨r0,r1⟩:=f.at (k:=m) (by rw[H.o];exact O)
    have f0:=f.frozen (m*2);have f1:=f.frozen (m*2+1);have af:=f.lt;have j:=aa (P.o w5 (iI n1).1 (iI n1).2 f (ad PT.o p) (aM p F cz) (zW F p.size) (by rw[g.o];rfl))
    clear p V f;go_wp2_with fail
    go_roundg (ny-(k+1))
    case measure=>omega
    case rel=>exact⟨k+1,ω,rfl,by go_num,j⟩
   have z2:=aM d r X;have f:=Q.o.later d;obtain⟨r0,r1⟩:=f.at (k:=m) (by rw[H.o];exact O)
   have f0:=f.frozen (m*2);have f1:=f.frozen (m*2+1);have af:=f.lt;have al:wr.heap.size<w3.heap.size:=zW r d.size;have j:=aa (P.o w3 0 0 f (ad G.o d) (aM d v cy) (zW v d.size) (by rw[g.o];rfl))
   clear d Z X f;go_wp2_with fail
   go_roundg (ny-(k+1))
   case measure=>omega
   case rel=>exact⟨k+1,ω,rfl,by go_num,j⟩
  have ag:k=ny:=ω;subst ag;go_wp2_with fail;go_ret;exact⟨rfl,HK.o.1,HK.o.2.1⟩
end Go.Proofs.YtjfampgnhccodaaGreatDoor
