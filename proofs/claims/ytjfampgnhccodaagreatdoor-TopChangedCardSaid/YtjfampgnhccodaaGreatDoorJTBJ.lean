/-
  What newQueue of package calc answers: the queue of a plan,as it begins,in whatever memory.
-/
import Derived.Maps.OwnSet
import Derived.Test.YtjfampgnhccodaaGreatDoorJTBE
import Derived.Test.YtjfampgnhccodaaGreatDoorJTBI
namespace Go.Proofs.YtjfampgnhccodaaGreatDoor
open Tryz Go.ChangeShapes Go.WideShapes Go.ChangeAt Go.RowKit
set_option maxRecDepth 20000
theorem oJ(q g n:Nat)(D:Nat->Dm)(X:Nat->AL)(w:World)(a:cM w q g n D X):Calls prog 66 #[.pointer (some ⟨q,0,none⟩)] w fun e w'=>e=.returned (.int .i64 (prodN D n:Nat))/\w'=w:=by
 obtain⟨b,c,d⟩:=a.cells;generalize prodN D n=N at *;clear a
 go_enter func66,ntmps66
 go_wp2_with fail;go_ret;exact⟨rfl,rfl⟩
theorem DE{w w3:World}{B gM gU N:Nat}{UV:Nat->Value}{UL:Nat->List Int}(hU:UM w3 B gU N UV UL)(d:eQ w3 gM N 3 fun _=>.int .i64 0)(c:Bl w w3)(b:w.heap.size<=B)(e:w.heap.size<=gM)(f:∀j,j<N->(UV j).ownBlock≠some gM):
  QM (w3.alloc (.cells #[.slice (some ⟨gM,0,none⟩) N N,.slice (some ⟨gU,0,none⟩) N N,.slice none 0 0] 143)) w.heap.size w3.heap.size gM gU N (fun _=>0) UV UL (.slice none 0 0) []/\Bl w (w3.alloc (.cells #[.slice (some ⟨gM,0,none⟩) N N,.slice (some ⟨gU,0,none⟩) N N,.slice none 0 0] 143)):=by
 have a:Bl w3 (w3.alloc (.cells #[.slice (some ⟨gM,0,none⟩) N N,.slice (some ⟨gU,0,none⟩) N N,.slice none 0 0] 143)):=by go_grown
 refine⟨⟨heap_alloc_new _ _,d.same (a.block _ d.lt),hU.hU.same (a.block _ hU.hU.lt),fun j g=>ak (mi (hU.own j g) b) a,World.ownsRow_nil _ _ _ _,f,hU.dU,fun h=>(by cases h),fun _ _ _ h=>(by cases h),c.size,e,zV b hU.lU⟩,ad c a⟩
theorem JD{w w' w4:World}{gU N:Nat}{Nn:List (List Int)}(d:Gz w4 gU N N Nn w')(g:w.heap.size<=w'.heap.size)(b:Bl w w4):
  ∃UV,QM ((w4.alloc (.cells (madeCells #[.int .i64 0] N) 3)).alloc (.cells #[.slice (some ⟨w4.heap.size,0,none⟩) N N,.slice (some ⟨gU,0,none⟩) N N,.slice none 0 0] 143)) w.heap.size (w4.heap.size+1) w4.heap.size gU N (fun _=>0) UV (fun j=>bv Nn j N) (.slice none 0 0) []/\Bl w ((w4.alloc (.cells (madeCells #[.int .i64 0] N) 3)).alloc (.cells #[.slice (some ⟨w4.heap.size,0,none⟩) N N,.slice (some ⟨gU,0,none⟩) N N,.slice none 0 0] 143)):=by
 obtain⟨UV,c,i⟩:=d;have a:Bl w4 (w4.alloc (.cells (madeCells #[.int .i64 0] N) 3)):=by go_grown
 have h:=DE (c.later a) (eQ.made w4 N 3 (.int .i64 0)) (ad b a) g b.size fun j f e=>by
  have:=(aO (c.own j f) e).2.1
  omega
 rw[show(w4.alloc (.cells (madeCells #[.int .i64 0] N) 3)).heap.size=w4.heap.size+1 from by simp]at h
 exact⟨UV,h⟩
theorem FI{w w' w4:World}{gM gU N:Nat}{Nn:List (List Int)}(a:Gz w4 gU N N Nn w')(h:w.heap.size<=w'.heap.size)(d:Bl w w4)(b:eQ w' gM N 3 fun _=>.int .i64 0)(c:w.heap.size<=gM):
  ∃UV,QM (w4.alloc (.cells #[.slice (some ⟨gM,0,none⟩) N N,.slice (some ⟨gU,0,none⟩) N N,.slice none 0 0] 143)) w.heap.size w4.heap.size gM gU N (fun _=>0) UV (fun j=>bv Nn j N) (.slice none 0 0) []/\Bl w (w4.alloc (.cells #[.slice (some ⟨gM,0,none⟩) N N,.slice (some ⟨gU,0,none⟩) N N,.slice none 0 0] 143)):=by
 obtain⟨UV,a,f⟩:=a;exact⟨UV,DE a (b.same (f.block _ b.lt)) d h c fun j g e=>by
  have i:=(aO (a.own j g) e).1;have k:=b.lt
  omega⟩
def KS(w:World)(q gM gU N k:Nat)(Nn:List (List Int))(w1:World):Prop := ∃M UV R,QM w w1.heap.size q gM gU N M UV (fun j=>bv Nn j N) R (selTo (fun j=>(Nn.getD j []).isEmpty) k)/\(∀j,j<k->M j=((Nn.getD j []).length:Int))/\Bl w1 w
def Oj(w:World)(q gM gU N k:Nat)(Nn:List (List Int))(w1:World):Prop := ∃M UV R,QM w w1.heap.size q gM gU N M UV (fun j=>bv Nn j N) R (selTo (fun j=>(Nn.getD j []).isEmpty) k)/\(∀j,j<k+1->M j=((Nn.getD j []).length:Int))/\Bl w1 w
section
variable {w w2 w1:World} {q gM gU N k tl:Nat} {Nn:List (List Int)}
theorem KS.put(h:KS w q gM gU N k Nn w1)(b:Bl w w2)(f:(Nn.getD k []).length=tl):Oj (w2.setCell ⟨gM,k,none⟩ (.int .i64 (tl:Int))) q gM gU N k Nn w1:=by
 obtain⟨M,UV,R,a,d,c⟩:=h;refine⟨fun j=>if j=k then(tl:Int)else M j,UV,R,(a.later b).setM k (tl:Int),fun j g=>?_,(ad c b).setCell a.lM _⟩
 by_cases e:j=k
 ·show(if j=k then(tl:Int)else M j)=_
  rw[if_pos e,e,f]
 show(if j=k then(tl:Int)else M j)=_
 rw[if_neg e];exact d j ω
theorem Oj.done(h:Oj w q gM gU N k Nn w1)(b:(Nn.getD k []).length≠0):KS w q gM gU N (k+1) Nn w1:=by
 obtain⟨M,UV,R,f,e,d⟩:=h;refine⟨M,UV,R,?_,e,d⟩;have c:selTo (fun j=>(Nn.getD j []).isEmpty) (k+1)=selTo (fun j=>(Nn.getD j []).isEmpty) k:=by
  rw[selTo];have:(Nn.getD k []).isEmpty=false:=by
   generalize Nn.getD k []=T at b;cases T with
   |nil=>exact absurd rfl b
   |cons a r=>rfl
  rw[this]
  simp
 rw[c];exact f
theorem Oj.free(h:Oj w q gM gU N k Nn w1)(F:(Nn.getD k []).length=0):
  ∃AO ln i Ly,w.cell? ⟨q,2,none⟩=some (.slice AO ln i)/\w.frozen? ⟨q,2,none⟩=false/\ln<=k/\w.ownsRow w1.heap.size 3 1 (.slice AO ln i) ln (aA Ly)/\(∀(w5 w6:World),Bl w w5->w5.grownBy w6 (Value.slice AO ln i).ownBlock->w6.cell? ⟨q,2,none⟩=some (.slice AO ln i)/\w6.frozen? ⟨q,2,none⟩=false/\q<w6.heap.size) /\
  ∀(w5 w6:World) (v:Value),Bl w w5->w6.ownsRow w1.heap.size 3 1 v (ln+1) (aA Ly++[.int .i64 (k:Int)])->w5.grownBy w6 (Value.slice AO ln i).ownBlock->(v.ownBlock=(Value.slice AO ln i).ownBlock\/v.ownBlock=some w5.heap.size)->KS (w6.setCell ⟨q,2,none⟩ v) q gM gU N (k+1) Nn w1:=by
 obtain⟨M,UV,R,f,D,l⟩:=h;have n:=f.ready;obtain⟨AO,i,p⟩:∃AO i,R=.slice AO (selTo (fun j=>(Nn.getD j []).isEmpty) k).length i:=by
  rcases n.2 with⟨s,B⟩|⟨g,cap,r,s,-⟩
  ·exact⟨none,0,by rw[s,B]⟩
  exact⟨_,_,s⟩
 have y:∀b,R.ownBlock=some b->b≠q/\b≠gU:=fun b o=>by
  obtain⟨-,-,r,G⟩:=aO n o;exact f.off G
 have u:∀(w5 w6:World),Bl w w5->w5.grownBy w6 R.ownBlock->w6.heap[q]?=w.heap[q]?:=fun w5 w6 c d=>(d.block q (zW f.ql c.size) (fun e=>(y q e.symm).1 rfl)).trans (c.block q f.ql)
 refine⟨AO,_,i,_,by rw[←p];exact f.cells.2.2.1,f.cells.2.2.2,Mv _ _,by rw[←p];exact n,fun w5 w6 c d=>?_,fun w5 w6 v c C d m=>?_⟩
 ·rw[←p]at d|-
  have z:=u w5 w6 c d;refine⟨(World.cell?_of_block (a:=⟨q,2,none⟩) z).trans f.cells.2.2.1,(World.frozen?_of_block (a:=⟨q,2,none⟩) z).trans f.cells.2.2.2,?_⟩;have:=f.ql;have:=c.size;have:=d.size
  omega
 rw[←p]at d m;have x:(selTo (fun j=>(Nn.getD j []).isEmpty) k++[(k:Int)]).length=(selTo (fun j=>(Nn.getD j []).isEmpty) k).length+1:=by rw[List.length_append];rfl
 have E:=f.pushR (L:=selTo (fun j=>(Nn.getD j []).isEmpty) k++[(k:Int)]) (v:=v) (H:=w5.heap.size) c d (by rw[x,mapI_snoc];exact C) m c.size
 have t:Bl w1 w6:=⟨d.os.trans (ad l c).os,d.tape.trans (ad l c).tape,d.output.trans (ad l c).output,zV (ad l c).size d.size,fun b o=>(d.block b (zW o (ad l c).size) (fun e=>by have:=(aO n e.symm).1;omega)).trans ((ad l c).block b o)⟩
 refine⟨M,UV,v,?_,D,t.setCell f.lq _⟩;have A:selTo (fun j=>(Nn.getD j []).isEmpty) (k+1)=selTo (fun j=>(Nn.getD j []).isEmpty) k++[(k:Int)]:=by
  rw[selTo];rw[List.eq_nil_of_length_eq_zero F]
  simp
 rw[A];exact E
end
theorem I0(l g n:Nat)(D:Nat->Dm)(X:Nat->AL)(w:World)(K:eT D n)(B:(ag D n).2.2=0)(Z:cM w l g n D X):
  Calls prog 65 #[.pointer (some ⟨l,0,none⟩)] w fun e w' =>∃q gM gU,e=.returned (.tuple #[.pointer (some ⟨q,0,none⟩),.nilIface])/\KS w' q gM gU (prodN D n) (prodN D n) (rowsL D n) w:=by
 obtain⟨i0,ah,al,am,an⟩:=info_parts infoInt;obtain⟨aA,aB,ak,hd⟩:=ao B;have p:Hid (∀w',Bl w w'->Calls prog 66 #[.pointer (some ⟨l,0,none⟩)] w' fun e ab=>e=.returned (.int .i64 (prodN D n:Nat))/\ab=w'):=fun w' t=>oJ l g n D X w' (Z.later t)
 have i:Hid (∀w',Bl w w'->Calls prog 106 #[.pointer (some ⟨l,0,none⟩)] w' fun e ab=>(∃gU,e=.returned (.slice (some ⟨gU,0,none⟩) (prodN D n) (prodN D n))/\Gz ab gU (prodN D n) (prodN D n) (rowsL D n) w')/\Bl w' ab):=fun w' t=>by
  refine(tW l g n D X w' K B (Z.later t)).mono ?_;rintro e ab⟨gU,rfl,hU⟩;exact⟨⟨gU,rfl,hU⟩,hU.choose_spec.2⟩
 have o:Hid (∀k w',k<prodN D n->Bl w w'->Calls prog 107 #[.pointer (some ⟨l,0,none⟩),.int .i64 k] w' fun e ab=>(∃A' s,e=.returned (.tuple #[.slice A' ((rowsL D n).getD k []).length s,.nilIface]))/\Bl w' ab):=fun k w' S t=>by
  refine(BI l g n D X k w' K B S (Z.later t)).mono ?_;rintro e ab⟨⟨A',s,T,rfl,hI,hT,-,au⟩,hb⟩;have af:T=(rowsL D n).getD k []:=by rw[mC K B hT,my S]
  rw[←af];exact⟨⟨A',s,rfl⟩,hb⟩
 have r:Hid (∀k,k<prodN D n->((rowsL D n).getD k []).length<=12):=fun k S=>(fH K B S).2.1
 obtain⟨Nn,J⟩:=ar (rowsL D n);rw[J]at o r i|-;obtain⟨N,hN⟩:=ar (prodN D n);rw[hN]at p o r i ak|-;have aw:(N:Int)<=3000:=ω;have U:=run_make_row' (P:=prog) 42 3 (.int .i64 0) 8 underlying42 infoInt rfl .i64 .i64 N ω ω
 clear Z B K hd J hN
 go_enter func65,ntmps65
 go_upto_region 1 with fail
 go_cut [4]from 8 (fun s4 wx =>∃q gM gU UV,s4=.pointer (some ⟨q,0,none⟩)/\QM wx w.heap.size q gM gU N (fun _=>0) UV (fun j=>bv Nn j N) (.slice none 0 0) []/\Bl w wx)
 case first =>
  go_region_law ((first
   |(go_simp;refine(p.o _ γ).mono ?_;rintro e w3⟨rfl,rfl⟩)
   |(go_simp;refine(i.o _ γ).mono ?_;rintro e w4⟨⟨gU,rfl,O⟩,x⟩;have I:=ad (W0:=w) γ x;have aD:=x.size;clear x)))
  all_goals go_wp2_with fail
  all_goals go_meet
  all_goals first
   |(obtain⟨UV,h1,h2⟩:=JD (w:=w) O (by first|exact zT|simp) I;exact⟨_,_,_,UV,rfl,h1,h2⟩)
   |(obtain⟨UV,h1,h2⟩:=FI (w:=w) O (by first|exact zT|simp) I (eQ.made w N 3 (.int .i64 0)) zT;exact⟨_,_,_,UV,rfl,h1,h2⟩)
 case rest =>
 obtain⟨q,gM,gU,UV,rfl,C,u⟩:=hcut;obtain⟨w1,rfl⟩:∃w1:World,w1=wc:=⟨_,rfl⟩;have PU:Hid (KS w1 q gM gU N 0 Nn w):=by
  exact⟨fun _=>0,UV,.slice none 0 0,C,fun j hj=>absurd hj (Nat.not_lt_zero _),u⟩
 have V:=p.o w1 u;clear U C u i;go_wp2_with fail;refine V.mono ?_;rintro e w2⟨rfl,rfl⟩;clear V;go_wp2_with fail
 go_loopg [17] N (fun gg ap wr =>∃(k:Nat),k<=N/\gg=N-k/\ap=.int .i64 k/\Hid (KS wr q gM gU N k Nn w))
 case atStart=>exact⟨0,zU,rfl,rfl,PU⟩
 case round =>
  obtain⟨k,S,rfl,rfl,Y⟩:=hrel
  by_cases y:k<N
  ·have ay:(k:Int)<(N:Int):=ω;have PT:Hid (Bl w wr):=by obtain⟨-,-,-,-,-,h⟩:=Y.o;exact h
   have z:=o.o k wr y PT.o;have ae:=r.o k y;obtain⟨tl,A⟩:=ar ((Nn.getD k []).length);have f:=aa A;rw[A]at z ae;have aE:(tl:Int)<=12:=ω;clear A;go_wp2_with fail;refine z.mono ?_;rintro e w3⟨⟨A2,c2,rfl⟩,v⟩;have c:=aa (Y.o.put v f.o);obtain⟨m0,m1,mf,mq,mg⟩:w3.cell? ⟨q,0,none⟩=some (.slice (some ⟨gM,0,none⟩) N N)/\w3.cell? ⟨gM,k,none⟩≠none/\w3.frozen? ⟨gM,k,none⟩=false/\q<w3.heap.size/\gM<w3.heap.size:=by
    obtain⟨M,UV,R,C,-,-⟩:=Y.o;have d:=C.later v;exact⟨d.cells.1,by rw[d.hM.cell y];simp,d.hM.frozen k,d.ql,d.hM.lt⟩
   obtain⟨mv,aF⟩:=Option.ne_none_iff_exists'.1 m1;obtain⟨ac,W⟩:=ar (w3.setCell ⟨gM,k,none⟩ (.int .i64 (tl:Int)));rw[W]at c;clear z v m1
   by_cases G:tl=0
   ·obtain⟨AO,ln,cO,Ly,cR,ax,az,hO,L,H⟩:=c.o.free (by rw[f.o];exact G)
    have HO:=aa hO;have F:=aa L;have E:=aa H;obtain⟨aC,av⟩:q<ac.heap.size/\w.heap.size<=ac.heap.size:=by
     obtain⟨M,UV,R,C,-,t⟩:=c.o;exact⟨C.ql,t.size⟩
    have aj:ln<=3000:=ω;have PV:((tl:Int) == 0)=true:=by simp[G]
    clear hO L H c f G
    go_wp2_with (at_builtin;refine wpList_append_own_at _ rfl _ _ 42 rfl w.heap.size 3 i0 (.int .i64 0) 1 8 underlying42 ah al am an rfl (by decide) _ _ _ rfl (HO.o.alloc _) ⟨ac.heap.size,0,none⟩ 1 1 [.int .i64 k] rfl rfl da ew (by unfold maxLen;omega) ω (by simp;omega) ?_)
    intro v' w6 b a _ Q;obtain⟨y1,y2,y3⟩:=F.o _ _ γ a
    obtain⟨A',s,rfl⟩:∃A' s,v'=.slice A' (ln+1) s:=by
     rcases b.2 with⟨-,h⟩|⟨g',s,aq,h,-⟩
     ·omega
     exact⟨_,_,h⟩
    have m:=aa (E.o _ _ _ γ b a (Q.imp id fun h=>by rw[h];simp))
    clear b a Q;go_wp2_with fail
    go_roundg (N-(k+1))
    case measure=>omega
    case rel=>exact⟨k+1,ω,rfl,by go_num,m⟩
   have PV:((tl:Int) == 0)=false:=by simpa using G
   have m:Hid (KS ac q gM gU N (k+1) Nn w):=c.o.done (by rw[f.o];exact G)
   clear c;go_wp2_with fail
   go_roundg (N-(k+1))
   case measure=>omega
   case rel=>exact⟨k+1,ω,rfl,by go_num,m⟩
  have ai:k=N:=ω;subst ai;go_wp2_with fail;go_returns;exact⟨q,gM,gU,rfl,Y.o⟩
structure QS(w:World)(B q gM gU N:Nat)(M:Nat->Int)(UV:Nat->Value)(UL:Nat->List Int)(gR:Nat)(AR:Option Addr)(cR:Nat)(RL:List Int):Prop where
 hq:w.heap[q]?=some (.cells #[.slice (some ⟨gM,0,none⟩) N N,.slice (some ⟨gU,0,none⟩) N N,.slice AR RL.length cR] 143 (0,0))
 hM:eQ w gM N 3 fun j=>.int .i64 (M j)
 hU:eQ w gU N 42 UV
 own:∀j,j<N->w.ownsRow B 3 1 (UV j) (UL j).length (aA (UL j))
 ready:ie w gR AR cR RL
 dM:∀j,j<N->(UV j).ownBlock≠some gM
 dR:gR≠gM
 dRU:∀j,j<N->(UV j).ownBlock≠some gR
 lq:B<=q
 lM:B<=gM
 lU:B<=gU
 lR:B<=gR
theorem QS.of{w:World}{B q gM gU N:Nat}{M:Nat->Int}{UV:Nat->Value}{UL:Nat->List Int}{R:Value}{RL:List Int}(h:QM w B q gM gU N M UV UL R RL)(hl:0<RL.length):∃gR cR,QS w B q gM gU N M UV UL gR (some ⟨gR,0,none⟩) cR RL:=by
 obtain⟨gR,cR,hR,hB,hV⟩:=ie.own h.ready hl
 refine⟨gR,cR,by rw[←hR];exact h.hq,h.hM,h.hU,h.own,hV,h.dM,fun e=>h.dR (by rw[hR,←e];rfl),fun j hj e=>h.dRU j hj gR (by rw[hR];rfl) e,h.lq,h.lM,h.lU,hB⟩
section
variable {w w':World} {B q gM gU N:Nat} {M:Nat->Int} {UV:Nat->Value} {UL:Nat->List Int} {gR:Nat} {AR:Option Addr} {cR:Nat} {RL:List Int}
theorem QS.ql(h:QS w B q gM gU N M UV UL gR AR cR RL):q<w.heap.size:=(zY h.hq).1
theorem QS.later(h:QS w B q gM gU N M UV UL gR AR cR RL)(a:Bl w w'):QS w' B q gM gU N M UV UL gR AR cR RL :=
 ⟨(a.block q h.ql).trans h.hq,h.hM.same (a.block _ h.hM.lt),h.hU.same (a.block _ h.hU.lt),fun j b=>ak (h.own j b) a,h.ready.later a,h.dM,h.dR,h.dRU,h.lq,h.lM,h.lU,h.lR⟩
theorem QS.keep(h:QS w B q gM gU N M UV UL gR AR cR RL){r:Option Nat}(a:w.grownBy w' r)(d:r≠some q)(f:r≠some gM)(g:r≠some gU)(i:r≠some gR)(k:∀j,j<N->∀b,(UV j).ownBlock=some b->r≠some b):QS w' B q gM gU N M UV UL gR AR cR RL :=
 ⟨(a.block q h.ql (fun e=>d e.symm)).trans h.hq,h.hM.same (a.block _ h.hM.lt (fun e=>f e.symm)),h.hU.same (a.block _ h.hU.lt (fun e=>g e.symm)),fun j c=>iN (h.own j c) a (k j c),h.ready.same (a.block _ h.ready.lt (fun e=>i e.symm)),h.dM,h.dR,h.dRU,h.lq,h.lM,h.lU,h.lR⟩
theorem QS.cells(h:QS w B q gM gU N M UV UL gR AR cR RL):w.cell? ⟨q,0,none⟩=some (.slice (some ⟨gM,0,none⟩) N N)/\w.cell? ⟨q,1,none⟩=some (.slice (some ⟨gU,0,none⟩) N N)/\w.cell? ⟨q,2,none⟩=some (.slice AR RL.length cR)/\w.frozen? ⟨q,2,none⟩=false :=
 ⟨by simp[World.cell?,h.hq],by simp[World.cell?,h.hq],by simp[World.cell?,h.hq],by simp[World.frozen?,h.hq]⟩
theorem QS.off(h:QS w B q gM gU N M UV UL gR AR cR RL){b:Nat}{a:Array Value}(c:w.heap[b]?=some (.cells a 3 (0,0))):b≠q/\b≠gU:=by
 refine⟨fun e=>?_,h.hU.off c g9⟩
 rw[e,h.hq]at c
 simp at c
theorem QS.ne(h:QS w B q gM gU N M UV UL gR AR cR RL):q≠gM/\q≠gU/\gM≠gU/\gR≠q/\gR≠gU:=by
 obtain⟨-,-,o,-,⟨b,c,-⟩,-⟩:=h.ready;have a:=h.off c;refine⟨fun e=>?_,fun e=>?_,fun e=>?_,a.1,a.2⟩
 ·have a:=h.hq;rw[e,h.hM]at a;simp at a
 ·have a:=h.hq;rw[e,h.hU]at a;simp at a
 have a:=h.hM;unfold eQ at a;rw[e,h.hU]at a;simp at a
theorem QS.ownOff(h:QS w B q gM gU N M UV UL gR AR cR RL){j b:Nat}(e:j<N)(c:(UV j).ownBlock=some b):b≠q/\b≠gU:=by
 obtain⟨-,-,a,d⟩:=aO (h.own j e) c;exact h.off d
theorem QS.users(h:QS w B q gM gU N M UV UL gR AR cR RL){j:Nat}(a:j<N){A:Option Addr}{c:Nat}(b:UV j=.slice A (UL j).length c):w.cell? ⟨gU,j,none⟩=some (.slice A (UL j).length c)/\aJ w A c (UL j):=by
 refine⟨by rw[←b];exact h.hU.cell a,?_⟩
 obtain⟨A',f,e,d⟩:=cY (h.own j a);rw[b]at e;cases e;exact d
theorem QS.qin(h:QS w B q gM gU N M UV UL gR AR cR RL){w5 w6:World}(b:Bl w w5)(c:w5.grownBy w6 (some gR)):w6.cell? ⟨q,2,none⟩=some (.slice AR RL.length cR)/\w6.frozen? ⟨q,2,none⟩=false/\q<w6.heap.size:=by
 obtain⟨n1,n2,n3,n4,n5⟩:=h.ne;have e:w6.heap[q]?=w.heap[q]?:=(c.block q (zW h.ql b.size) (fun e=>n4 (by simpa using e.symm))).trans (b.block q h.ql)
 refine⟨(World.cell?_of_block (a:=⟨q,2,none⟩) e).trans h.cells.2.2.1,(World.frozen?_of_block (a:=⟨q,2,none⟩) e).trans h.cells.2.2.2,?_⟩;have:=h.ql;have:=b.size;have:=c.size
 omega
theorem QS.setM(h:QS w B q gM gU N M UV UL gR AR cR RL)(m:Nat)(x:Int):QS (w.setCell ⟨gM,m,none⟩ (.int .i64 x)) B q gM gU N (fun j=>if j=m then x else M j) UV UL gR AR cR RL:=by
 obtain⟨n1,n2,n3,n4,n5⟩:=h.ne;refine⟨by rw[ae _ _ _ _ _ n1];exact h.hq,?_,h.hU.same (ae _ _ _ _ _ n3.symm),fun j a=>dx (h.own j a) (h.dM j a),h.ready.same (ae _ _ _ _ _ h.dR),h.dM,h.dR,h.dRU,h.lq,h.lM,h.lU,h.lR⟩
 refine h.hM.set (f':=fun j=>.int .i64 (if j=m then x else M j)) fun j _=>?_
 by_cases e:j=m
 ·simp only[if_pos e]
 simp only[if_neg e]
theorem QS.setR(h:QS w B q gM gU N M UV UL gR AR cR RL){w5 w6:World}{g' f:Nat}{A':Option Addr}{L:List Int}(i:Bl w w5)(m:w5.grownBy w6 (some gR))(p:ie w6 g' A' f L)(c:g'=gR\/w.heap.size<=g')(r:B<=w.heap.size):QS (w6.setCell ⟨q,2,none⟩ (.slice A' L.length f)) B q gM gU N M UV UL g' A' f L:=by
 obtain⟨n1,n2,n3,n4,n5⟩:=h.ne;have a:∀b,b<w.heap.size->b≠gR->w6.heap[b]?=w.heap[b]?:=fun b g l=>(m.block b (zW g i.size) (fun e=>l (by simpa using e))).trans (i.block b g)
 have o:g'≠q:=by
  rcases c with rfl|c
  ·exact n4
  have:=h.ql;omega
 refine⟨?_,(h.hM.same (a _ h.hM.lt h.dR.symm)).same (ae _ _ _ _ _ n1.symm),(h.hU.same (a _ h.hU.lt n5.symm)).same (ae _ _ _ _ _ n2.symm),fun j d=>?_,p.same (ae _ _ _ _ _ o),h.dM,?_,fun j d=>?_,h.lq,h.lM,h.lU,?_⟩
 ·have:=dj (k:=2) (v:=.slice A' L.length f) ((a q h.ql n4.symm).trans h.hq)
  simpa using this
 ·refine dx (iN (ak (h.own j d) i) m fun b g e=>h.dRU j d (by rw[e];exact g)) fun n=>(h.ownOff d n).1 rfl
 ·rcases c with rfl|c
  ·exact h.dR
  have:=h.hM.lt;omega
 ·rcases c with rfl|c
  ·exact h.dRU j d
  intro e;have:=(aO (h.own j d) e).2.1
  omega
 rcases c with rfl|c
 ·exact h.lR
 omega
theorem ie.tail{g o:Nat}{m:Int}{R:List Int}(h:ie w g (some ⟨g,o,none⟩) cR (m :: R)):ie w g (if cR=1 then some ⟨g,o,none⟩else some ⟨g,o+1,none⟩) (cR-1) R:=by
 obtain⟨f,l,o',i,⟨a,c,n⟩,b⟩:=h;cases i;simp only[List.length_cons]at f b
 by_cases e:cR=1
 ·rw[if_pos e]
  have k:R=[]:=List.eq_nil_of_length_eq_zero ω
  subst k;exact⟨zU,ω,o,rfl,⟨a,c,ω⟩,fun j d=>by simp at d⟩
 rw[if_neg e];refine⟨ω,ω,o+1,rfl,⟨a,c,ω⟩,fun j d=>?_⟩
 have:=b (j+1) ω
 rw[show o+1+j=o+(j+1) by omega]
 rw[List.getD_cons_succ]at this;exact this
end
theorem u5{Nn:List (List Int)}{R:List Int}(h:R.Pairwise (· < ·))(a:∀x∈R,∃j:Nat,x=j/\j<Nn.length):R.length<=Nn.length:=few _ _ (h.imp fun h=>ω) fun x b=>by
 obtain⟨j,rfl,c⟩:=a x b
 omega
inductive Rea(nx:Nat->List Int)(S:List Int):Int->Prop
 |base {x:Int}:x∈S->Rea nx S x
 |step {y:Nat} {x:Int}:Rea nx S (y:Int)->x∈nx y->Rea nx S x
def CR(N:Nat)(L:List Int):Prop := ∀z∈L,∃y:Nat,z=(y:Int)/\y<N
theorem Dh{N:Nat}{L:List Int}(h:CR N L)(a:L.Nodup):L.length<=N:=few N L a fun x b=>by
 obtain⟨y,rfl,c⟩:=h x b
 omega
structure ReI(nx:Nat->List Int)(S L:List Int)(k:Nat):Prop where
 nd:L.Nodup
 got:∀z∈L,Rea nx S z
 beg:∀z∈S,z∈L
 clo:∀j,j<k->∀z∈nx (L.getD j 0).toNat,z∈L
theorem ReI.all{nx:Nat->List Int}{S L:List Int}(h:ReI nx S L L.length):∀z,z∈L↔Rea nx S z:=by
 intro z;refine⟨h.got z,fun b=>?_⟩
 induction b with
 |base hx=>exact h.beg _ hx
 | @step y x _ hx ih =>
  obtain⟨j,a,e⟩:=List.getElem_of_mem ih;have:=h.clo j a;rw[zZ,zX a,Option.getD_some,e,Int.toNat_natCast]at this;exact this _ hx
theorem ReI.next{nx:Nat->List Int}{S L L':List Int}{k y:Nat}(h:ReI nx S L k)(i:k<L.length)(g:L.getD k 0=(y:Int))(m:L <+: L')(l:L'.Nodup)(c:∀z,z∈L'↔z∈L\/z∈nx y):ReI nx S L' (k+1):=by
 obtain⟨M,rfl⟩:=m;have b:∀j,j<L.length->(L++M).getD j 0=L.getD j 0:=fun j f=>by
  rw[zZ,zZ,List.getElem?_append_left f]
 refine⟨l,fun z a=>?_,fun z a=>(c z).2 (Or.inl (h.beg z a)),fun j f z a=>?_⟩
 ·rcases(c z).1 a with h1|h1
  ·exact h.got z h1
  have d:=h.got _ (gn i);rw[g]at d;exact .step d h1
 rw[b j ω]at a
 refine(c z).2 ?_
 by_cases e:j=k
 ·subst e
  rw[g,Int.toNat_natCast]at a;exact Or.inr a
 exact Or.inl (h.clo j ω z a)
theorem ReI.first{nx:Nat->List Int}{S L:List Int}(d:L.Nodup)(b:∀z,z∈L↔z∈([]:List Int)\/z∈S):ReI nx S L 0 :=
 ⟨d,fun z a=>.base (by simpa using(b z).1 a),fun z a=>(b z).2 (Or.inr a),fun j c=>absurd c (Nat.not_lt_zero _)⟩
theorem NL{nx:Nat->List Int}{S:List Int}{N:Nat}(a:CR N S)(b:∀y,y<N->CR N (nx y)){z:Int}(h:Rea nx S z):∃y:Nat,z=(y:Int)/\y<N:=by
 induction h with
 |base h=>exact a _ h
 | @step y x _ h ih =>
  obtain⟨d,e,c⟩:=ih;have:y=d:=ω;subst this;exact b y c _ h
def KI(L:List Int):DataW Unit:=Maps.setOf (.agg []) (L.map (Lit.int .i64))
theorem CU(x:Int):∀l:List Int,l.any ((fun y:Lit=>y.sameKey (.int .i64 x)) ∘ Lit.int .i64)=l.contains x
 | []=>rfl
 |a :: r=>by
  rw[List.any_cons,List.contains_cons,CU x r]
  congr 1
  show decide (IntKind.i64=IntKind.i64/\a=x)=(x ==a)
  by_cases e:a=x
  ·subst e
   simp
  have e' :¬x=a:=fun h=>e h.symm
  simp[e,e']
theorem Lx(L:List Int)(x:Int):Maps.has (KI L) (.int .i64 x)=L.contains x:=by
 unfold KI;rw[Maps.has_setOf _ _ _ (fun y a=>by obtain⟨_,_,rfl⟩:=List.mem_map.1 a;trivial),List.any_map]
 exact CU x _
theorem GJ(L:List Int)(x:Int):KI (L++[x])=(KI L).put (.int .i64 x) (.agg []):=by
 unfold KI;rw[List.map_append,List.map_singleton,Maps.setOf_snoc]
theorem qx:Maps.Keyed prog 3:=Maps.int_keyed underlying3
theorem tY(w:World):(zeroValue 243).run prog w=.ok (.agg #[]) w:=by kernel_rfl
structure RS(w:World)(B bS bF bM:Nat)(v:Value)(L:List Int):Prop where
 hS:w.heap[bS]?=some (.cells #[.map (some bM)] 242 (0,0))
 hF:w.heap[bF]?=some (.cells #[v] 42 (0,0))
 hM:w.ownsMap prog 3 (unitElem (H:=Unit)) bM L.length (KI L)
 own:w.ownsRow B 3 1 v L.length (aA L)
 lS:B<=bS
 lF:B<=bF
 lM:B<=bM
section
variable {w w':World} {B bS bF bM:Nat} {v:Value} {L:List Int}
theorem RS.later(h:RS w B bS bF bM v L)(a:Bl w w'):RS w' B bS bF bM v L :=
 ⟨(a.block _ (zY h.hS).1).trans h.hS,(a.block _ (zY h.hF).1).trans h.hF,h.hM.kept (dJ (r:=none) a) σ,ak h.own a,h.lS,h.lF,h.lM⟩
theorem RS.cells(h:RS w B bS bF bM v L):w.cell? ⟨bS,0,none⟩=some (.map (some bM))/\w.cell? ⟨bF,0,none⟩=some v/\w.frozen? ⟨bF,0,none⟩=false/\bS<w.heap.size/\bF<w.heap.size :=
 ⟨by simp[World.cell?,h.hS],by simp[World.cell?,h.hF],by simp[World.frozen?,h.hF],(zY h.hS).1,(zY h.hF).1⟩
theorem RS.map(h:RS w B bS bF bM v L):∃b a,w.heap[bM]?=some (.map b a):=by
 obtain⟨b,a,c,-⟩:=h.hM;exact⟨b,a,c⟩
theorem RS.ne(h:RS w B bS bF bM v L):bS≠bM/\bF≠bM/\bS≠bF/\(∀b,v.ownBlock=some b->b≠bS/\b≠bF/\b≠bM):=by
 obtain⟨j,i,d⟩:=h.map;refine⟨fun e=>?_,fun e=>?_,fun e=>?_,fun b g=>?_⟩
 ·have a:=h.hS;rw[e,d]at a;simp at a
 ·have a:=h.hF;rw[e,d]at a;simp at a
 ·have a:=h.hS;rw[e,h.hF]at a;simp at a
 obtain⟨-,-,f,c⟩:=aO h.own g;refine⟨fun e=>?_,fun e=>?_,fun e=>?_⟩
 ·rw[e,h.hS]at c;simp at c
 ·rw[e,h.hF]at c;simp at c
 rw[e,d]at c;simp at c
theorem RS.made(w:World):RS (((w.alloc (.cells #[.slice none 0 0] 42)).alloc (.map #[] 0)).alloc (.cells #[.map (some (w.heap.size+1))] 242)) w.heap.size (w.heap.size+2) w.heap.size (w.heap.size+1) (.slice none 0 0) []:=by
 have a:(w.alloc (.cells #[.slice none 0 0] 42)).heap.size=w.heap.size+1:=by simp
 have b:((w.alloc (.cells #[.slice none 0 0] 42)).alloc (.map #[] 0)).heap.size=w.heap.size+2:=by simp
 refine⟨?_,?_,?_,World.ownsRow_nil _ _ _ _,ω,zT,ω⟩
 ·have h:=heap_alloc_new ((w.alloc (.cells #[.slice none 0 0] 42)).alloc (.map #[] 0)) (.cells #[.map (some (w.heap.size+1))] 242)
  rw[b]at h;exact h
 ·rw[heap_alloc_old _ _ ω,heap_alloc_old _ _ ω]
  exact heap_alloc_new w _
 have h:=World.ownsMap_made (w.alloc (.cells #[.slice none 0 0] 42)) prog 3 (unitElem (H:=Unit));rw[a]at h;exact h.alloc _
theorem RS.mid(h:RS w B bS bF bM v L){wa w1:World}(a:Bl w wa)(c:wa.grownBy w1 (some bM)):w1.heap[bS]?=w.heap[bS]?/\w1.heap[bF]?=w.heap[bF]?/\w1.ownsRow B 3 1 v L.length (aA L):=by
 obtain⟨n1,n2,n3,n4⟩:=h.ne;have d:=(zY h.hS).1;have f:=(zY h.hF).1;have i:=a.size;refine⟨(c.block _ ω (by simpa using n1)).trans (a.block _ d),(c.block _ ω (by simpa using n2)).trans (a.block _ f),iN (ak h.own a) c fun b g e=>?_⟩
 cases e;exact(n4 _ g).2.2 rfl
theorem RS.push(h:RS w B bS bF bM v L){wa w1 wb w2:World}{x:Int}{v':Value}(i:Bl w wa)(g:w1.ownsMap prog 3 (unitElem (H:=Unit)) bM (L.length+1) ((KI L).put (.int .i64 x) (.agg [])))(f:wa.grownBy w1 (some bM))(b:Bl w1 wb)
  (c:w2.ownsRow B 3 1 v' (L.length+1) (aA L++[.int .i64 x])) (a:wb.grownBy w2 v.ownBlock):w2.cell? ⟨bF,0,none⟩=some v/\w2.frozen? ⟨bF,0,none⟩=false/\bF<w2.heap.size/\RS (w2.setCell ⟨bF,0,none⟩ v') B bS bF bM v' (L++[x]):=by
 obtain⟨n1,n2,n3,n4⟩:=h.ne;obtain⟨m1,m2,m3⟩:=h.mid i f;have j:=(zY (m1.trans h.hS)).1;have k:=(zY (m2.trans h.hF)).1;have p:=b.size;have n:=a.size;have o:w2.heap[bS]?=some (.cells #[.map (some bM)] 242 (0,0)):=((a.block _ ω fun e=>(n4 _ e.symm).1 rfl).trans (b.block _ j)).trans (m1.trans h.hS)
 have d:w2.heap[bF]?=some (.cells #[v] 42 (0,0)):=((a.block _ ω fun e=>(n4 _ e.symm).2.1 rfl).trans (b.block _ k)).trans (m2.trans h.hF)
 refine⟨by simp[World.cell?,d],by simp[World.frozen?,d],(zY d).1,?_,?_,?_,?_,h.lS,h.lF,h.lM⟩
 ·rw[ae _ _ _ _ _ n3]
  exact o
 ·simp[World.setCell,Array.getElem?_modify,d]
 ·rw[GJ,List.length_append,List.length_singleton]
  exact(((g.kept (dJ (r:=none) b) σ).kept a fun e=>(n4 _ e.symm).2.2 rfl)).setCell (Ne.symm n2) _
 rw[List.length_append,List.length_singleton,mapI_snoc];refine dx c fun e=>?_
 obtain⟨-,-,m,l⟩:=aO c e;rw[d]at l
 simp at l
theorem lz{W0 w w':World}{r:Option Nat}(h:Bl W0 w)(a:w.grownBy w' r)(d:∀b,r=some b->W0.heap.size<=b):Bl W0 w' :=
 ⟨a.os.trans h.os,a.tape.trans h.tape,a.output.trans h.output,zV h.size a.size,fun b c=>(a.block b (zW c h.size) (fun e=>by have:=d b e.symm;omega)).trans (h.block b c)⟩
end
def RM(w:World)(W0:World)(bS bF bM N:Nat)(L:List Int)(A:Option Addr)(c:Nat)(T:List Int)(k:Nat)(v:Value)(L':List Int):Prop:=RS w W0.heap.size bS bF bM v L'/\L <+: L'/\L'.Nodup/\CR N L'/\(∀z,z∈L'↔z∈L\/z∈T.take k)/\aJ w A c T/\(∀a,A=some a->v.ownBlock≠some a.block)/\Bl W0 w
section
variable {w W0:World} {bS bF bM N:Nat} {L:List Int} {A:Option Addr} {c:Nat} {T:List Int} {k:Nat} {v:Value} {L':List Int}
theorem RM.old(h:RM w W0 bS bF bM N L A c T k v L')(d:k<T.length)(e:T.getD k 0∈L'){wa:World}(a:Bl w wa):RM wa W0 bS bF bM N L A c T (k+1) v L':=by
 obtain⟨f,g,i,j,b,l,m,n⟩:=h;refine⟨f.later a,g,i,j,fun z=>?_,l.later a,m,ad n a⟩
 rw[b z,List.take_succ_eq_append_getElem d,List.mem_append,List.mem_singleton]
 constructor
 ·intro h
  exact h.imp id Or.inl
 rintro(h|h|h)
 ·exact Or.inl h
 ·exact Or.inr h
 rw[zZ,zX d,Option.getD_some,←h]at e;exact(b z).1 e
theorem RM.new(h:RM w W0 bS bF bM N L A c T k v L')(p:k<T.length){y:Nat}(F:T.getD k 0=(y:Int))(C:y<N)(O:(y:Int)∉L'){wa w1 wb w2:World}{v':Value}(f:Bl w wa)(B:w1.ownsMap prog 3 (unitElem (H:=Unit)) bM (L'.length+1) ((KI L').put (.int .i64 (y:Int)) (.agg [])))(d:wa.grownBy w1 (some bM))(g:Bl w1 wb)
  (s:w2.ownsRow W0.heap.size 3 1 v' (L'.length+1) (aA L'++[.int .i64 (y:Int)])) (m:wb.grownBy w2 v.ownBlock) (t:v'.ownBlock=v.ownBlock\/v'.ownBlock=some wb.heap.size):w2.cell? ⟨bF,0,none⟩=some v/\w2.frozen? ⟨bF,0,none⟩=false/\bF<w2.heap.size/\RM (w2.setCell ⟨bF,0,none⟩ v') W0 bS bF bM N L A c T (k+1) v' (L'++[(y:Int)]):=by
 obtain⟨l,⟨M,rfl⟩,i,G,I,r,D,J⟩:=h;obtain⟨p1,p2,p3,p4⟩:=l.push f B d g s m;obtain⟨n1,n2,n3,n4⟩:=l.ne;have u:Bl W0 w1:=lz (ad J f) d fun b e=>by cases e;exact l.lM
 have x:Bl W0 w2:=lz (ad u g) m fun b e=>(aO l.own e).1
 have keep:∀a,A=some a->T≠[]->(w2.setCell ⟨bF,0,none⟩ v').heap[a.block]?=w.heap[a.block]?:=fun a j o=>by
  obtain⟨-,-,q|⟨b,cs,fr,n,i,-⟩⟩:=r
  ·exact absurd q o
  rw[j]at n;cases n;have lt:=(zY i).1;have S:=f.size;have U:=d.size;have s3:=g.size;have Q:b≠bF:=fun e=>by rw[e,l.hF]at i;simp at i
  have R:b≠bM:=fun e=>by obtain⟨W,V,K⟩:=l.map;rw[e,K]at i;simp at i
  show(w2.setCell ⟨bF,0,none⟩ v').heap[b]?=w.heap[b]?
  rw[ae _ _ _ _ _ Q];exact(((m.block b ω fun e=>D _ j e.symm).trans (g.block b ω)).trans (d.block b ω (by simpa using R))).trans (f.block b lt)
 have o:T≠[]:=fun e=>by rw[e]at p;simp at p
 refine⟨p1,p2,p3,p4,⟨M++[(y:Int)],by rw[List.append_assoc]⟩,?_,?_,fun z=>?_,r.one fun a j=>keep a j o,fun a j e=>?_,x.setCell l.lF _⟩
 ·rw[List.nodup_append]
  exact⟨i,by simp,fun a j b E e=>by simp at E;subst E;subst e;exact O j⟩
 ·intro z P
  rcases List.mem_append.1 P with h|h
  ·exact G z h
  exact⟨y,by simpa using h,C⟩
 ·rw[List.mem_append,I z,List.take_succ_eq_append_getElem p,List.mem_append,List.mem_singleton,List.mem_singleton]
  rw[zZ,zX p,Option.getD_some]at F;rw[F];exact or_assoc
 rcases t with h|h
 ·exact D a j (h.symm.trans e)
 obtain⟨-,-,q|⟨b,cs,fr,n,i,-⟩⟩:=r
 ·exact o q
 rw[j]at n;cases n;have lt:=(zY i).1;have S:=f.size;have U:=d.size;have s3:=g.size;rw[h]at e
 simp at e
 omega
end
theorem H9(args:Array Value)(w:World):(callFunc 165 args).run prog w=.ok (.enter 165 args) w:=by simp[go_sem]
theorem xw(W0:World)(bS bF bM N:Nat)(v:Value)(L:List Int)(A:Option Addr)(c:Nat)(T:List Int)(w:World)(hN:N<=3000)(PT:T.length<=3000)(G:CR N T)(h0:RM w W0 bS bF bM N L A c T 0 v L):
  Calls prog 165 #[.slice A T.length c,.pointer (some ⟨bS,0,none⟩),.pointer (some ⟨bF,0,none⟩)] w fun e w'=>e=.returned (.tuple #[])/\∃v' L',RM w' W0 bS bF bM N L A c T T.length v' L':=by
 obtain⟨i0,PW,P1,P2,P3⟩:=info_parts infoInt;have V:=aa G;have U:=aa h0;obtain⟨tl,z⟩:=ar T.length;have D:=aa z;rw[z]at PT|-;have aj:(tl:Int)<=3000:=ω;clear h0 G z
 go_enter func165,ntmps165
 go_wp2_with fail
 go_loopg [10] tl (fun gg ad wr =>∃(k:Nat),k<=tl/\gg=tl-k/\ad=.int .i64 k/\Hid (∃v' L',RM wr W0 bS bF bM N L A c T k v' L'))
 case atStart=>exact⟨0,zU,rfl,rfl,⟨v,L,U.o⟩⟩
 case round =>
  obtain⟨k,hk,rfl,rfl,HK⟩:=hrel
  by_cases PZ:k<tl
  ·have ai:(k:Int)<(tl:Int):=ω;have l:k<T.length:=by rw[D.o];exact PZ
   obtain⟨v1,L1,hR⟩:=HK.o;have B:=aa hR;obtain⟨y,O,P0⟩:=V.o _ (gn l);obtain⟨F,-,x,u,-,PV,-,r⟩:=hR;obtain⟨c0,c1,f1,ag,af⟩:=F.cells;obtain⟨PU,-,Z|⟨bt,cs,fr,rfl,s,t⟩⟩:=PV
   ·rw[Z]at l;simp at l
   have cx:=t k l;have ah:bt<wr.heap.size:=(zY s).1;rw[D.o]at PU;rw[O]at cx;have ab:(tl:Int)<=(c:Int):=ω;have ak:(y:Int)<3000:=ω;have PY:=Dh u x;have b:=F.hM;have n:keyOf prog 3 (.int .i64 (y:Int))=some (.int .i64 (y:Int)):=Maps.keyOf_int_mk underlying3 (WalkArith.wf_i64 ω)
   have i:=Lx L1 (y:Int);obtain⟨AO,M,hv⟩:∃AO M,v1=.slice AO L1.length M:=by
    rcases F.own.2 with⟨Y,h2⟩|⟨g,cap,X,Y,-⟩
    ·exact⟨none,0,by rw[Y,h2]⟩
    exact⟨_,_,Y⟩
   have ae:W0.heap.size<=wr.heap.size:=r.size;have HY:=aa O
   by_cases C:(y:Int)∈L1
   ·have hh:Maps.has (KI L1) (.int .i64 (y:Int))=true:=by rw[i];exact List.contains_iff_mem.2 C
    have P:Hid (∀wa,Bl wr wa->RM wa W0 bS bF bM N L (some ⟨bt,0,none⟩) c T (k+1) v1 L1):=fun wa o=>B.o.old l (by rw[HY.o];exact C) o
    clear F x u t s i O r hv C
    go_wp2_with (at_lookup;refine wpList_lookup_own_unit _ rfl _ _ 242 rfl 3 243 qx underlying242 (tY _) bM _ _ rfl b _ _ rfl n ?_)
    go_roundg (tl-(k+1))
    case measure=>omega
    case rel=>exact⟨k+1,ω,rfl,by go_num,⟨v1,L1,P.o _ γ⟩⟩
   have hh:Maps.has (KI L1) (.int .i64 (y:Int))=false:=by rw[i];exact Bool.eq_false_iff.2 fun h=>C (List.contains_iff_mem.1 h)
   subst hv;have p:Hid (∀wa w1,Bl wr wa->wa.grownBy w1 (some bM)->w1.cell? ⟨bF,0,none⟩=some (.slice AO L1.length M)/\w1.ownsRow W0.heap.size 3 1 (.slice AO L1.length M) L1.length (aA L1)/\bF<w1.heap.size/\W0.heap.size<=w1.heap.size):=fun wa w1 o j=>by
    obtain⟨-,m2,m3⟩:=B.o.1.mid o j;have s1:=o.size;have s2:=j.size;have s3:=B.o.2.2.2.2.2.2.2.size;have s4:=B.o.1.cells.2.2.2.2;exact⟨(World.cell?_of_block (a:=⟨bF,0,none⟩) m2).trans B.o.1.cells.2.1,m3,ω,ω⟩
   have q:=aa (fun wa w1 wb w2 v'=>B.o.new l HY.o P0 C (wa:=wa) (w1:=w1) (wb:=wb) (w2:=w2) (v':=v'))
   have f:=b.alloc (.cells #[] 243);obtain⟨ln,J⟩:=ar L1.length;rw[J]at b f c1 p q PY;have ac:ln<=3000:=ω;clear F x u t s i O r C J
   go_wp2_with (first
    |(at_lookup;refine wpList_lookup_own_unit _ rfl _ _ 242 rfl 3 243 qx underlying242 (tY _) bM _ _ rfl b _ _ rfl n ?_)
    |(at_mapUpdate;refine wpList_mapUpdate_own _ rfl _ _ _ 242 rfl 3 243 qx underlying242 (unitElem (H:=Unit)) bM ln _ rfl f (by unfold maxLen;omega) _ _ _ rfl rfl n _ [] unitElem_mk ?_))
   intro w1 K j;obtain⟨x1,x2,x3,x4⟩:=p.o _ _ γ j
   have S:=aa x2;have Q:=aa j;have R:=aa K;clear x2 j K b f c0 c1 f1
   go_wp2_with (at_builtin;refine wpList_append_own_at _ rfl _ _ 42 rfl W0.heap.size 3 i0 (.int .i64 0) 1 8 underlying42 PW P1 P2 P3 rfl (by decide) _ _ _ rfl (S.o.alloc _) ⟨w1.heap.size,0,none⟩ 1 1 [.int .i64 y] rfl rfl da ew (by unfold maxLen;omega) ω (by simp;omega) ?_)
   intro v' w2 d m _ I;obtain⟨A',W,rfl⟩:∃A' W,v'=.slice A' (ln+1) W:=by
    rcases d.2 with⟨-,h⟩|⟨g',W,X,h,-⟩
    ·omega
    exact⟨_,_,h⟩
   obtain⟨y1,y2,y3,E⟩:=q.o _ _ _ _ _ γ R.o Q.o γ d m (I.imp id fun h=>by rw[h];simp)
   have P:=aa E;clear d m I E x1 x3 x4;go_wp2_with fail
   go_roundg (tl-(k+1))
   case measure=>omega
   case rel=>exact⟨k+1,ω,rfl,by go_num,⟨_,_,P.o⟩⟩
  have PX:k=tl:=ω;subst PX;go_wp2_with fail
  first|go_end0|refine bodyPost_ret (results_none rfl _ _ _) rfl ?_
  exact⟨rfl,HK.o⟩
end Go.Proofs.YtjfampgnhccodaaGreatDoor
namespace Go.Proofs.YtjfampgnhccodaaGreatDoor
open Tryz Go.ChangeShapes Go.WideShapes Go.ChangeAt Go.RowKit
open Go.Sort (putRow Holds grow holds_putRow)
set_option maxRecDepth 20000
theorem Av(w:World)(os:Array Obj):Bl w (grow w os):=⟨rfl,rfl,rfl,by simp,fun k a=>Sort.heap_grow_old _ _ a⟩
theorem Cr{w:World}{base g n cap q:Nat}{zs ys:List Int}{os:Array Obj}(h:w.ownsRow base 3 1 (.slice (some ⟨g,0,none⟩) n cap) n (aA zs))(b:ys.length=n):(grow (putRow (Value.int .i64) (Sort.ahead w q) g 0 ys.toArray) os).ownsRow base 3 1 (.slice (some ⟨g,0,none⟩) n cap) n (aA ys):=by
 have a:=Lib.ownsRow_putRow (enc:=Value.int .i64) (q:=q) (zs:=zs) (ys:=ys) (k:=n) h b zT;rw[List.take_of_length_le ω]at a
 exact ak a (Av _ _)
theorem rJ{w:World}{g n b:Nat}{d:Array Int}{os:Array Obj}(a:b<w.heap.size)(c:b≠g):(grow (putRow (Value.int .i64) (Sort.ahead w n) g 0 d) os).heap[b]?=w.heap[b]?:=by
 rw[Sort.heap_grow_old _ _ (by simpa using a),yi c]
 rfl
theorem NT{L:List Int}(h:L.Nodup):(L.mergeSort fun a b=>decide (a<=b)).Pairwise (· < ·):=by
 have c:List.Pairwise (fun a b=>a≠b) (L.mergeSort fun a b=>decide (a<=b)):=(List.mergeSort_perm _ _).symm.pairwise h fun{a b} h e=>h e.symm
 exact((mA _).and c).imp fun h=>ω
def RK(w:World)(W0:World)(bS bF bM N:Nat)(nx:Nat->List Int)(S:List Int)(k:Nat)(v:Value)(L:List Int):Prop:=RS w W0.heap.size bS bF bM v L/\ReI nx S L k/\k<=L.length/\CR N L/\Bl W0 w
theorem Bo(F:Nat)(fa cp:Array Value)(nx:Nat->List Int)(N:Nat)(az:∀(args:Array Value) (w:World),(callFunc F args).run prog w=.ok (.enter F args) w)(A:Option Addr)(c:Nat)(S:List Int)(w:World)(hN:N<=3000)(PX:S.length<=3000)(hS:aJ w A c S)(PW:CR N S)(P3:∀y,y<N->CR N (nx y))(P4:∀y,y<N->(nx y).length<=3000)
  (hF:∀(y:Nat) (w':World),y<N->Bl w w'->Calls prog F (fa++ #[.int .i64 y]++cp) w' fun e ab=>(∃A' i,e=.returned (.tuple #[.slice A' (nx y).length i,.nilIface])/\aJ ab A' i (nx y)/\∀a,A'=some a->a.block<w.heap.size\/w'.heap.size<=a.block)/\Bl w' ab):
  Calls prog 118 #[.slice A S.length c,.func (.func F) fa cp] w fun e w'=>(∃v L,e=.returned (.tuple #[v,.nilIface])/\w'.ownsRow w.heap.size 3 1 v L.length (aA L)/\L.Pairwise (· < ·)/\∀z,z∈L↔Rea nx S z)/\Bl w w':=by
 have hmm := @run_makeMap prog;have E:=RS.made w;obtain⟨W,hW⟩:=ar (((w.alloc (.cells #[.slice none 0 0] 42)).alloc (.map #[] 0)).alloc (.cells #[.map (some (w.heap.size+1))] 242));have O:Bl w W:=by rw[←hW];go_grown
 rw[hW]at E;rw[show w.heap.size+2=w.heap.size+1+1 from rfl]at E
 have P:=xw w (w.heap.size+1+1) w.heap.size (w.heap.size+1) N (.slice none 0 0) [] A c S W hN PX PW ⟨E,List.prefix_refl _,List.nodup_nil,fun z hz=>(by cases hz),fun z=> σ,hS.later O,fun a ha e=>(by cases e),O⟩
 have ai:Hid (∀v L A' i T w',T.length<=3000->CR N T->RM w' w (w.heap.size+1+1) w.heap.size (w.heap.size+1) N L A' i T 0 v L->Calls prog 165 #[.slice A' T.length i,.pointer (some ⟨w.heap.size+1+1,0,none⟩),.pointer (some ⟨w.heap.size,0,none⟩)] w' fun e ab=>e=.returned (.tuple #[])/\∃v' L',RM ab w (w.heap.size+1+1) w.heap.size (w.heap.size+1) N L A' i T T.length v' L'):=fun v L A' i T w' Y h2 h3=>xw w _ _ _ N v L A' i T w' hN Y h2 h3
 have ao:=aa P3;have ap:=aa P4;have HF:=aa hF;have aj:=aa hN;obtain⟨sl,R⟩:=ar S.length;have am:=aa R;rw[R]at P|-;have aP:=H9;clear E O hF P3 P4 hS PW R PX
 go_enter func118,ntmps118
 go_wp2_with fail;refine P.mono ?_;rintro e w1⟨rfl,v1,L1,PT⟩;have ag:Hid (∃v L,RK w1 w (w.heap.size+1+1) w.heap.size (w.heap.size+1) N nx S 0 v L):=by
  obtain⟨r1,r2,r3,r4,r5,r6,r7,r8⟩:=PT;refine⟨v1,L1,r1,ReI.first r3 fun z=>?_,zU,r4,r8⟩
  rw[r5 z,←am.o,List.take_length]
 clear PT P hW;go_wp2_with fail
 go_loopg [9] N (fun gg s9 wr =>∃(k:Nat),k<=N/\gg=N-k/\s9=.int .i64 k/\Hid (∃v L,RK wr w (w.heap.size+1+1) w.heap.size (w.heap.size+1) N nx S k v L))
 case atStart=>exact⟨0,zU,rfl,rfl,ag⟩
 case round =>
  obtain⟨k,hk,rfl,rfl,HK⟩:=hrel;obtain⟨v,L,PV⟩:=HK.o;have HR:=aa PV;obtain⟨f,o,aD,r,m⟩:=PV;obtain⟨c0,c1,f1,aL,PZ⟩:=f.cells;have av:=Dh r o.nd;obtain⟨AO,u,hv⟩:∃AO u,v=.slice AO L.length u:=by
   rcases f.own.2 with⟨Y,h2⟩|⟨g,cap,aK,Y,-⟩
   ·exact⟨none,0,by rw[Y,h2]⟩
   exact⟨_,_,Y⟩
  subst hv;obtain⟨ln,P1⟩:=ar L.length;have j:=aa P1;rw[P1]at c1 aD av;have aF:(ln:Int)<=3000:=ω;by_cases aG:k<ln
  ·have aQ:(k:Int)<(ln:Int):=ω;have s:k<L.length:=by rw[j.o];exact aG
   obtain⟨y,hy,X⟩:=r _ (gn s);obtain⟨A1,aI,e1,au⟩:=cY f.own;cases e1;obtain⟨ax,-,aw|⟨bt,cs,fr,rfl,PY,P0⟩⟩:=au
   ·rw[aw]at s;simp at s
   have cx:=P0 k s;have aM:bt<wr.heap.size:=(zY PY).1;rw[j.o]at ax;rw[hy]at cx;have ay:(ln:Int)<=(u:Int):=ω;have hf:=HF.o y wr X m;have V:=ap.o y X;obtain⟨T,hT⟩:=ar (nx y);rw[hT]at hf V;have HT:=aa hT;have K:Hid (∀A' i w3,Bl wr w3->aJ w3 A' i T->(∀a,A'=some a->a.block<w.heap.size\/wr.heap.size<=a.block)->RM w3 w (w.heap.size+1+1) w.heap.size (w.heap.size+1) N L A' i T 0 (.slice (some ⟨bt,0,none⟩) L.length u) L):=fun A' i w3 q D C=>by
    obtain⟨g1,g2,g3,g4,g5⟩:=HR.o;refine⟨g1.later q,List.prefix_refl _,g2.nd,g4,fun z=>by simp,D,fun a ha e=>?_,ad g5 q⟩
    have Y:=aO g1.own e
    rcases C a ha with h|h
    ·omega
    omega
   have H:Hid (∀A' i w4 v' L',RM w4 w (w.heap.size+1+1) w.heap.size (w.heap.size+1) N L A' i T T.length v' L'->∃v L,RK w4 w (w.heap.size+1+1) w.heap.size (w.heap.size+1) N nx S (k+1) v L):=fun A' i w4 v' L' h=>by
    obtain⟨r1,r2,r3,r4,r5,r6,r7,r8⟩:=h;obtain⟨g1,g2,g3,g4,g5⟩:=HR.o;refine⟨v',L',r1,g2.next s hy r2 r3 fun z=>?_,?_,r4,r8⟩
    ·rw[r5 z,List.take_length,HT.o]
    have:=r2.length_le
    omega
   have an:Hid (CR N T):=by rw[←hT];exact ao.o y X
   obtain⟨tl,U⟩:=ar T.length;have M:=aa U;rw[U]at hf V;have aT:(y:Int)<3000:=by have:=aj.o;omega
   clear f o r m P0 PY hy hT U f1;go_wp2_with fail;refine hf.mono ?_;rintro e w3⟨⟨A',i,rfl,D,C⟩,q⟩;have Q:=ai.o _ L A' i T w3 (by rw[M.o];exact V) an.o (K.o A' i w3 q D C)
   rw[M.o]at Q;clear hf D C q;go_wp2_with fail;refine Q.mono ?_;rintro e w4⟨rfl,v',L',PU⟩;have ah:=aa (H.o A' i w4 v' L' (by rw[M.o];exact PU))
   clear Q PU;go_wp2_with fail
   go_roundg (N-(k+1))
   case measure=>omega
   case rel=>exact⟨k+1,ω,rfl,by go_num,ah⟩
  have aE:k=ln:=ω;subst aE;have G:Hid (∀z,z∈L↔Rea nx S z):=by
   have h:=o;rw[←j.o]at h;exact h.all
  have I:Hid ((L.mergeSort fun a b=>decide (a<=b)).Pairwise (· < ·)):=NT o.nd
  have J:Hid (∀z,z∈(L.mergeSort fun a b=>decide (a<=b))↔z∈L):=fun z=>(List.mergeSort_perm _ _).mem_iff
  have B:Hid ((L.mergeSort fun a b=>decide (a<=b)).length=k):=by show _=_;rw[List.length_mergeSort];exact j.o
  by_cases hz:Value.slice AO k u=.slice none 0 0
  ·cases hz
   have p:=Any.slices_Sort_int_none lays189 none 0 wr;have aq:Hid ((L.mergeSort fun a b=>decide (a<=b))=[]):=List.eq_nil_of_length_eq_zero B.o
   have af:=aa m;clear f o r m f1;go_wp2_with fail;refine Calls.mono p ?_;rintro e w4⟨rfl,rfl⟩;go_wp2_with fail;go_returns;refine⟨⟨_,L.mergeSort fun a b=>decide (a<=b),rfl,by rw[aq.o];exact World.ownsRow_nil _ _ _ _,I.o,fun z=>(J.o z).trans (G.o z)⟩,af.o⟩
  have hO:=f.own;rw[j.o]at hO;obtain⟨gg,cc,aH,aB,aC,aR,aN,-,hH⟩:=Lib.holds_of_ownsRow (enc:=Value.int .i64) (zs:=L) hO hz;cases aH;have p:=Any.slices_Sort_int lays189 gg 0 u L wr hH aC (by have:=j.o;omega)
  rw[j.o]at p;obtain⟨ys,P5⟩:=ar ((L.mergeSort fun x y=>decide (x<=y)))
  rw[P5]at p I J B;have P2:w.heap.size≠gg:=fun e=>(f.ne.2.2.2 gg rfl).2.1 e.symm
  have al:Hid (∀l os,(grow (putRow (Value.int .i64) (Sort.ahead wr l) gg 0 ys.toArray) os).ownsRow w.heap.size 3 1 (.slice (some ⟨gg,0,none⟩) k u) k (aA ys)):=fun l os=>Cr hO B.o
  have Z:Hid (∀l os,(grow (putRow (Value.int .i64) (Sort.ahead wr l) gg 0 ys.toArray) os).cell? ⟨w.heap.size,0,none⟩=some (.slice (some ⟨gg,0,none⟩) k u)/\w.heap.size<(grow (putRow (Value.int .i64) (Sort.ahead wr l) gg 0 ys.toArray) os).heap.size):=fun l os=>by
   have h:=(World.cell?_of_block (a:=⟨w.heap.size,0,none⟩) (rJ (w:=wr) (n:=l) (d:=ys.toArray) (os:=os) PZ P2)).trans f.cells.2.1;rw[j.o]at h;exact⟨h,(zY ((rJ (w:=wr) (n:=l) (d:=ys.toArray) (os:=os) PZ P2).trans f.hF)).1⟩
  have ae:Hid (∀l os,Bl w (grow (putRow (Value.int .i64) (Sort.ahead wr l) gg 0 ys.toArray) os)):=fun l os=>ip m aB
  clear f o r m hO hH P5 f1;go_wp2_with fail;refine Calls.mono p ?_;rintro e w4⟨rfl,l,os,t⟩;have ak:Hid (w4.ownsRow w.heap.size 3 1 (.slice (some ⟨gg,0,none⟩) k u) k (aA ys)):=by rw[t];exact al.o l os
  have ac:Hid (Bl w w4):=by rw[t];exact ae.o l os
  have c4:w4.cell? ⟨w.heap.size,0,none⟩=some (.slice (some ⟨gg,0,none⟩) k u):=by rw[t];exact(Z.o l os).1
  have aS:w.heap.size<w4.heap.size:=by rw[t];exact(Z.o l os).2
  clear t p c0 c1;go_wp2_with fail;go_returns;exact⟨⟨_,ys,rfl,by rw[B.o];exact ak.o,I.o,fun z=>(J.o z).trans (G.o z)⟩,ac.o⟩
end Go.Proofs.YtjfampgnhccodaaGreatDoor
