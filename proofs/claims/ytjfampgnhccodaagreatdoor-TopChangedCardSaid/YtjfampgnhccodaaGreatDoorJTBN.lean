/- A member added and tak -/
import Derived.Test.YtjfampgnhccodaaGreatDoorJTBH
import Derived.Test.YtjfampgnhccodaaGreatDoorJTBK
import Derived.Test.YtjfampgnhccodaaGreatDoorJTBM
namespace Go.Proofs.YtjfampgnhccodaaGreatDoor
open Tryz ChangeShapes WideShapes ChangeAt RowKit Lib
set_option maxRecDepth 99999
set_option maxHeartbeats 0
theorem Li{D:Nat->Dm}{n k:Nat}{l:List En}{m:Mem}(A:Ens D n l)(Q:k<n)(z:(ag (bN D k (dA (D k) m)) n).2.2=0)(N:ju l k m.parent=false):Ens (bN D k (dA (D k) m)) n l:=by
 refine⟨z,fun e B=>?_,A.rise⟩
 obtain⟨d,o,G⟩:=A.each e B;have M:∀i,(D i).n<=(bN D k (dA (D k) m) i).n:=fun i=>by
  by_cases hi:i=k
  ·subst hi;rw[putD_at];show(D i).n<=(D i).n+1;omega
  rw[b6 D _ hi];exact zT
 have f:InO (bN D k (dA (D k) m)) n e.pl:=⟨z,d.len,d.lo,fun i hi=>by have:=d.hi i hi;have:=M i;omega⟩
 refine⟨f,?_,G⟩;have v:placeErr D n e.pl=0:=d.ok;have w:placeErr (bN D k (dA (D k) m)) n e.pl=0:=f.ok;unfold leafV at o|-;rw[if_pos v]at o;rw[if_pos w];have u:∀i,i<n->bz D e.pl i=false:=fun i hi=>by
  rcases findFrom_cases (bz D e.pl) n 0 with⟨_,a⟩|⟨j,a,_⟩
  ·exact a i zU ω
  rw[a]at o
  simp at o
 rw[aN (p:=bz (bN D k (dA (D k) m)) e.pl) fun i _ hi=>?_]
 ·rfl
 have c:i<n:=ω;have a:=u i c
 by_cases g:i=k
 ·subst g
  have L:=d.lo i c;have K:=d.hi i c;unfold bz at a|-;rw[putD_at];obtain⟨x,C⟩:∃x:Nat,e.pl.getD i 0=x:=⟨(e.pl.getD i 0).toNat,ω⟩
  rw[C,Int.toNat_natCast]at a|-;have O:x<(D i).n:=ω;have t:(dA (D i) m).mem x=(D i).mem x:=if_neg ω
  have s:m.parent≠(x:Int):=fun E=>by
   have:ju l i m.parent=true:=by
    unfold ju;rw[List.any_eq_true];exact⟨e,B,by simp only[decide_eq_true_eq];rw[C,E]⟩
   rw[N]at this;cases this
  unfold leafB at a|-;rw[t];have J:findFrom (bD (dA (D i) m).mem x) (dA (D i) m).n 0<0↔findFrom (bD (D i).mem x) (D i).n 0<0:=by
   constructor
   ·intro H
    rcases findFrom_cases (bD (D i).mem x) (D i).n 0 with⟨I,_⟩|⟨j,_,_,y,b,_⟩
    ·omega
    have r:bD (dA (D i) m).mem x j=true:=by
     unfold bD at b|-
     rwa [show(dA (D i) m).mem j=(D i).mem j from if_neg ω]
    have:=bJ (q:=bD (dA (D i) m).mem x) (n:=(dA (D i) m).n) (i:=j) (by show j<(D i).n+1;omega) r
    omega
   intro H
   rcases findFrom_cases (bD (dA (D i) m).mem x) (dA (D i) m).n 0 with⟨I,_⟩|⟨j,_,_,y,b,_⟩
   ·omega
   have P:j<(D i).n+1:=by have F:j<0+(dA (D i) m).n:=y;have:(dA (D i) m).n=(D i).n+1:=rfl;omega
   by_cases h:j=(D i).n
   ·unfold bD at b
    rw[show(dA (D i) m).mem j=m from if_pos h]at b
    exact absurd (by simpa using b) s
   have r:bD (D i).mem x j=true:=by
    unfold bD at b|-
    rwa [show(dA (D i) m).mem j=(D i).mem j from if_neg h]at b
   have:=bJ (q:=bD (D i).mem x) (n:=(D i).n) (i:=j) ω r
   omega
  simp only[Bool.not_eq_false',Bool.and_eq_true,decide_eq_true_eq,Bool.not_eq_true',decide_eq_false_iff_not]at a|-;exact⟨a.1,by have:=J.2 ω;omega⟩
 unfold bz at a|-;rw[b6 D _ g];exact a
theorem OB{W w':World}{b o b' o':Nat}{u v:Value}(h:b<W.heap.size/\b'<W.heap.size/\W.cell? ⟨b,o,none⟩=some u/\W.cell? ⟨b',o',none⟩=some v)(a:Bl W w'):Bl W w'/\w'.cell? ⟨b,o,none⟩=some u/\w'.cell? ⟨b',o',none⟩=some v :=
 ⟨a,aM a h.1 h.2.2.1,aM a h.2.1 h.2.2.2⟩
theorem u9(A B:Option Addr)(M N:Nat)(xs ys:List EnL)(w:World)(K:lE xs=lE ys)(V:xs.length<=3000)(Q:∀k,k<xs.length->(xs.getD k noL).e.pl.length<=4)(O:bU w A M xs)(P:bU w B N ys):
  Rt 16 #[.slice A xs.length M,.slice B ys.length N] w (.bool true):=by
 have q:ys.length=xs.length:=by rw[←aR,←K,aR]
 have R:=aa O;have S:=aa P;have G:Hid (∀k,(ys.getD k noL).e=(xs.getD k noL).e):=fun k=>by rw[←lE_at,←lE_at,K]
 have T:=aa Q;obtain⟨n,l⟩:=ar xs.length;have z:=aa l;have p:=aa (q.trans l);rw[q];rw[l]at V|-;have W:(n:Int)<=3000:=ω;clear O P K Q q l
 go_enter func16,ntmps16
 go_wp2_with fail
 go_loopg [5] n (fun g s5 wr =>∃(k:Nat),k<=n/\g=n-k/\s5=.int .i64 k/\Bl w wr)
 case atStart=>exact⟨0,zU,rfl,rfl,zS⟩
 case round =>
  obtain⟨k,hk,rfl,rfl,d⟩:=hrel;have F:=aa d
  by_cases f:k<n
  ·have U:(k:Int)<(n:Int):=ω;obtain⟨-,-,H|⟨b,o,rfl,i⟩⟩:=R.o.later d
   ·have:=z.o;rw[H]at this;simp at this;omega
   obtain⟨-,-,H|⟨b',o',rfl,j⟩⟩:=S.o.later d
   ·have:=p.o;rw[H]at this;simp at this;omega
   obtain⟨c1,c2⟩:=i.at (k:=k) (by rw[z.o];exact f)
   obtain⟨s,C⟩:=j.at (k:=k) (by rw[p.o];exact f)
   have x:=i.pl (k:=k) (by rw[z.o];exact f)
   have r:=j.pl (k:=k) (by rw[p.o];exact f)
   rw[G.o k]at s C r;have a:Hid (∀w',Bl wr w'->Rt 44 #[.slice (xs.getD k noL).A (xs.getD k noL).e.pl.length (xs.getD k noL).c,.slice (ys.getD k noL).A (xs.getD k noL).e.pl.length (ys.getD k noL).c] w' (.bool true)):=fun w' y=>by
    have h:=B8 _ _ _ _ _ _ w' (T.o k (by rw[z.o];exact f)) (x.later y) (r.later y)
    rw[decide_eq_true rfl]at h;exact h
   have t:=i.1;have u:=j.1;generalize (xs.getD k noL).A=A1 at c1 a;generalize (xs.getD k noL).c=k1 at c1 a;generalize (ys.getD k noL).A=A2 at s a;generalize (ys.getD k noL).c=k2 at s a;generalize (xs.getD k noL).e.n=n1 at c2 C;generalize (xs.getD k noL).e.pl.length=m1 at c1 s a;have L:Hid (b<wr.heap.size/\b'<wr.heap.size/\wr.cell? ⟨b,o+k*2,none⟩=some (.slice A1 m1 k1)/\wr.cell? ⟨b',o'+k*2,none⟩=some (.slice A2 m1 k2)):=⟨t,u,c1,s⟩;have m:Hid (wr.cell? ⟨b,o+k*2+1,none⟩=some (.int .i64 n1)/\wr.cell? ⟨b',o'+k*2+1,none⟩=some (.int .i64 n1)):=⟨c2,C⟩;clear i j x r c1 c2 s C d;go_wp2_with fail
   go_cut [6] (fun s6 wx=>s6=.bool true/\Bl wr wx)
   case first=>as_aux_lemma =>
    go_region_held3 (fun w'=>Bl wr w'/\w'.cell? ⟨b,o+k*2,none⟩=some (.slice A1 m1 k1)/\w'.cell? ⟨b',o'+k*2,none⟩=some (.slice A2 m1 k2))
     ((refine OB L.o ?_;go_grown;done))
     (first|(go_at_call 44;refine(a.o _ γ).mono ?_;rintro e w3⟨rfl,v⟩;have I:=ad (W0:=wr) γ v;have X:=I.size;clear v))
    all_goals go_wp2_with fail
    all_goals go_meet
    all_goals exact⟨rfl,by go_grown⟩
   case rest=>as_aux_lemma =>
   obtain⟨rfl,D⟩:=hcut;obtain⟨w2,rfl⟩:∃w2:World,w2=wc:=⟨_,rfl⟩;have E:=aa D;have Y:w2.cell? ⟨b,o+k*2+1,none⟩=some (.int .i64 n1):=aM D t m.o.1;have Z:w2.cell? ⟨b',o'+k*2+1,none⟩=some (.int .i64 n1):=aM D u m.o.2;clear D L m a;go_wp2_with fail
   go_quiet (fail)
   go_wp2_with fail
   go_roundg (n-(k+1))
   case measure=>omega
   case rel=>exact⟨k+1,ω,rfl,by go_num,aj (ad F.o E.o) _⟩
  have J:k=n:=ω;subst J;go_wp2_with fail;go_ret;exact⟨rfl,d⟩
theorem a8{w w':World}{b o:Nat}{x:Value}(h:w.cell? ⟨b,o,none⟩=some x)(a:Bl w w'):w'.cell? ⟨b,o,none⟩=some x:=aM a (World.block_lt_of_cell? _ _ h) h
theorem uc{w:World}{h T:Nat}{fr:Nat×Nat}{z:Value}(k:w.heap[h]?=some (.cells #[z] T fr)){b o:Nat}{x:Value}(c:w.cell? ⟨b,o,none⟩=some x)(a:o≠0\/x≠z):b≠h:=fun e=>by
 subst e;rw[Lib.cell_of_heap k o]at c
 rcases Nat.eq_zero_or_pos o with e|e
 ·subst e
  rcases a with a|a
  ·exact a rfl
  exact a (by simpa using c.symm)
 rw[Array.getElem?_eq_none (by simp;omega)]at c
 cases c
section
variable {w:World} {h T:Nat} {fr:Nat×Nat} {v:Value}
theorem eY{b o:Nat}{x:Value}(c:w.cell? ⟨b,o,none⟩=some x)(a:b≠h):(w.setCell ⟨h,0,none⟩ v).cell? ⟨b,o,none⟩=some x:=(World.cell?_setCell_far _ _ _ _ (by first|exact a|exact fun e=>a e.symm)).trans c
theorem lQ:(w.setCell ⟨h,0,none⟩ v).heap.size=w.heap.size:=by simp
variable (k:w.heap[h]?=some (.cells #[.slice none 0 0] T fr))
include k
end
theorem wK{D D':Nat->Dm}{n:Nat}{l:List En}(s:Ens D n l)(r:(ag D' n).2.2=0)(u:∀i,i<n->(D' i).n=(D i).n)(t:∀i,i<n->∀x,x<(D i).n->((D' i).mem x).parent=((D i).mem x).parent/\(((D i).mem x).formula.size=0->((D' i).mem x).formula.size=0)):Ens D' n l:=by
 refine⟨r,fun e B=>?_,s.rise⟩
 obtain⟨c,f,w⟩:=s.each e B;have d:InO D' n e.pl:=⟨r,c.len,c.lo,fun i hi=>by rw[u i hi];exact c.hi i hi⟩
 refine⟨d,?_,w⟩;have k:placeErr D n e.pl=0:=c.ok;have m:placeErr D' n e.pl=0:=d.ok;unfold leafV at f|-;rw[if_pos k]at f;rw[if_pos m];have h:∀i,i<n->bz D e.pl i=false:=fun i hi=>by
  rcases findFrom_cases (bz D e.pl) n 0 with⟨_,b⟩|⟨j,b,_⟩
  ·exact b i zU ω
  rw[b]at f
  simp at f
 rw[aN (p:=bz D' e.pl) fun i _ hi=>?_]
 ·rfl
 have a:i<n:=ω;have b:=h i a;have H:=c.lo i a;have F:=c.hi i a;unfold bz at b|-;obtain⟨x,I⟩:∃x:Nat,e.pl.getD i 0=x:=⟨(e.pl.getD i 0).toNat,ω⟩
 rw[I,Int.toNat_natCast]at b|-;have o:x<(D i).n:=ω;unfold leafB at b|-;have C:findFrom (bD (D' i).mem x) (D' i).n 0<0↔findFrom (bD (D i).mem x) (D i).n 0<0:=by
  have v:∀j,j<(D i).n->bD (D' i).mem x j=bD (D i).mem x j:=fun j G=>by
   unfold bD;rw[(t i a j G).1]
  rw[u i a]
  constructor
  ·intro y
   rcases findFrom_cases (bD (D i).mem x) (D i).n 0 with⟨z,_⟩|⟨j,_,_,A,g,_⟩
   ·omega
   have:=bJ (q:=bD (D' i).mem x) (n:=(D i).n) (i:=j) ω (by rw[v j ω];exact g)
   omega
  intro y
  rcases findFrom_cases (bD (D' i).mem x) (D i).n 0 with⟨z,_⟩|⟨j,_,_,A,g,_⟩
  ·omega
  have:=bJ (q:=bD (D i).mem x) (n:=(D i).n) (i:=j) ω (by rw[←v j ω];exact g)
  omega
 have E:=(t i a x o).2;simp only[Bool.not_eq_false',Bool.and_eq_true,decide_eq_true_eq,Bool.not_eq_true',decide_eq_false_iff_not]at b|-;exact⟨E b.1,by have:=C.2 ω;omega⟩
theorem zH{D:Nat->Dm}{n k i:Nat}{l:List En}{new:ByteArray}(c:Ens D n l)(b:(ag (bN D k (kC (D k) i new)) n).2.2=0):Ens (bN D k (kC (D k) i new)) n l :=
 wK c b (fun j _=>by
  by_cases e:j=k
  ·subst e
   rw[putD_at]
   rfl
  ·rw[b6 D _ e]) fun j _ x _=>by
  by_cases e:j=k
  ·subst e
   rw[putD_at];refine⟨rfl,fun a=>?_⟩
   show(refT ((D j).mem i).name new ((D j).mem x).formula).size=0
   unfold refT;rw[if_pos a];exact a
  rw[b6 D _ e];exact⟨rfl,id⟩
theorem H8{D:Nat->Dm}{n k i:Nat}{l:List En}{aa:Int}(z:Ens D n l)(w:(ag (bN D k (fB (D k) i aa)) n).2.2=0)(K:ju l k aa=false):Ens (bN D k (fB (D k) i aa)) n l:=by
 have J:∀j,(bN D k (fB (D k) i aa) j).n=(D j).n:=fun j=>by
  by_cases e:j=k
  ·subst e
   rw[putD_at]
   rfl
  rw[b6 D _ e]
 refine⟨w,fun e A=>?_,z.rise⟩
 obtain⟨d,m,C⟩:=z.each e A;have g:InO (bN D k (fB (D k) i aa)) n e.pl:=⟨w,d.len,d.lo,fun j r=>by rw[J j];exact d.hi j r⟩
 refine⟨g,?_,C⟩;have t:placeErr D n e.pl=0:=d.ok;have u:placeErr (bN D k (fB (D k) i aa)) n e.pl=0:=g.ok;unfold leafV at m|-;rw[if_pos t]at m;rw[if_pos u];have s:∀j,j<n->bz D e.pl j=false:=fun j r=>by
  rcases findFrom_cases (bz D e.pl) n 0 with⟨_,a⟩|⟨j',a,_⟩
  ·exact a j zU ω
  rw[a]at m
  simp at m
 rw[aN (p:=bz (bN D k (fB (D k) i aa)) e.pl) fun j _ r=>?_]
 ·rfl
 have c:j<n:=ω;have a:=s j c;have H:=d.lo j c;have G:=d.hi j c
 by_cases h:j=k
 ·subst h
  unfold bz at a|-;rw[putD_at];obtain⟨x,B⟩:∃x:Nat,e.pl.getD j 0=x:=⟨(e.pl.getD j 0).toNat,ω⟩
  rw[B,Int.toNat_natCast]at a|-;have v:aa≠(x:Int):=fun b=>by
   have:ju l j aa=true:=by
    unfold ju;rw[List.any_eq_true];exact⟨e,A,by simp only[decide_eq_true_eq];rw[B,b]⟩
   rw[K]at this;cases this
  unfold leafB at a|-;have o:((fB (D j) i aa).mem x).formula=((D j).mem x).formula:=by
   by_cases b:x=i
   ·subst b
    simp[fB,setMb,jp]
   simp[fB,setMb,jp,b]
  have F:findFrom (bD (D j).mem x) (D j).n 0<0->findFrom (bD (fB (D j) i aa).mem x) (fB (D j) i aa).n 0<0:=by
   intro L;have I:(fB (D j) i aa).n=(D j).n:=rfl
   rcases findFrom_cases (bD (fB (D j) i aa).mem x) (fB (D j) i aa).n 0 with⟨M,_⟩|⟨y,_,_,N,f,_⟩
   ·omega
   by_cases b:y=i
   ·subst b
    unfold bD at f;rw[show((fB (D j) y aa).mem y).parent=aa by simp[fB,setMb,jp]]at f
    exact absurd (by simpa using f) v
   have E:bD (D j).mem x y=true:=by
    unfold bD at f|-
    rwa [show(fB (D j) i aa).mem y=(D j).mem y by simp[fB,setMb,jp,b]]at f
   have:=bJ (q:=bD (D j).mem x) (n:=(D j).n) (i:=y) ω E
   omega
  rw[o];simp only[Bool.not_eq_false',Bool.and_eq_true,decide_eq_true_eq,Bool.not_eq_true',decide_eq_false_iff_not]at a|-;exact⟨a.1,by have:=F ω;omega⟩
 unfold bz at a|-;rw[b6 D _ h];exact a
theorem MD{d:Dm}(h:(am d).2=0){i:Nat}(b:i<d.n):oY (d.mem i).sign=0:=by
 have a:=(aq h).2.2.2 i b;unfold aQ at a;unfold oY;rw[if_neg];intro c
 repeat' split at a
 all_goals first|omega|(simp_all;done)|(cases a)
theorem Ml{d:Dm}{i:Nat}{s:Int}:fj (fj d i s) i (d.mem i).sign=d:=by
 obtain⟨nm,sv,a,mm⟩:=d;unfold fj setMb;simp only
 congr 1
 funext x
 by_cases h:x=i
 ·subst h
  simp[jp]
 simp[jp,h]
theorem JO{D:Nat->Dm}{n k i:Nat}{l:List En}{nm:ByteArray}{aa sign:Int}(z:k<n)(y:i<(D k).n)(h:mM D n l ⟨5,k,i,nm,aa,sign⟩=0):
  GA D n l ⟨5,k,i,nm,aa,sign⟩=l/\cuErr (zj D ⟨5,k,i,nm,aa,sign⟩) n l=0/\mM (zj D ⟨5,k,i,nm,aa,sign⟩) n l ⟨5,k,i,⟨#[]⟩,0,((D k).mem i).sign⟩=0/\zj (zj D ⟨5,k,i,nm,aa,sign⟩) ⟨5,k,i,⟨#[]⟩,0,((D k).mem i).sign⟩=D/\GA (zj D ⟨5,k,i,nm,aa,sign⟩) n l ⟨5,k,i,⟨#[]⟩,0,((D k).mem i).sign⟩=l:=by
 have p:zj D ⟨5,k,i,nm,aa,sign⟩=bN D k (fj (D k) i sign):=by
  show bN D ((k:Int).toNat) (nZ (D ((k:Int).toNat)) _)=_
  rw[Int.toNat_natCast]
  show bN D k (fj (D k) ((i:Int).toNat) sign)=_
  rw[Int.toNat_natCast]
 have v:∀D' s' ab ac,mM D' n l ⟨5,k,i,ab,ac,s'⟩=0->GA D' n l ⟨5,k,i,ab,ac,s'⟩=l:=fun D' s' ab ac w=>by
  unfold GA;rw[if_pos w]
  show(if(5:Int)=2 then _ else l)=l
  exact if_neg (by decide)
 have q:=v D sign nm aa h;unfold mM at h;simp only[Int.toNat_natCast]at h
 by_cases b:cuErr D n l=0
 case neg=>rw[if_pos b]at h;exact absurd h b
 rw[if_neg (by simpa using b),if_neg ω]at h
 by_cases s:cgE (D k) l k ⟨5,k,i,nm,aa,sign⟩=0
 case neg=>rw[if_pos s]at h;exact absurd h s
 rw[if_neg (by simpa using s)]at h
 have r:∀d':Dm,nZ d' ⟨5,k,i,nm,aa,sign⟩=fj d' i sign:=fun d'=>by
  show fj d' ((i:Int).toNat) sign=_
  rw[Int.toNat_natCast]
 rw[r]at h;obtain⟨o,m⟩:=iC b;have d:Ens (bN D k (fj (D k) i sign)) n l:=wK m (iT h).1 (fun j _=>by
  by_cases e:j=k
  ·subst e;rw[putD_at];rfl
  ·rw[b6 D _ e]) fun j _ x _=>by
  by_cases e:j=k
  ·subst e
   rw[putD_at]
   show((if x=i then _ else _:Mem)).parent=_/\_
   by_cases u:x=i
   ·subst u
    simp[fj,setMb,jp]
   simp[fj,setMb,jp,u]
  rw[b6 D _ e];exact⟨rfl,id⟩
 have c:cuErr (bN D k (fj (D k) i sign)) n l=0:=by
  unfold cuErr;rw[if_neg (by simpa using h)]
  exact d.ok
 have a:bN (bN D k (fj (D k) i sign)) k (fj (fj (D k) i sign) i ((D k).mem i).sign)=D:=by
  rw[Ml,putD_twice,iP]
 have t:cgE (fj (D k) i sign) l k ⟨5,k,i,⟨#[]⟩,0,((D k).mem i).sign⟩=0:=by
  show(if(5:Int)=1 then _ else if(i:Int)<0\/(((D k).n:Nat):Int)<=(i:Int)then _ else if(5:Int)=2 then _ else if(5:Int)=3 then _ else if(5:Int)=4 then _ else if(5:Int)=5 then oY ((D k).mem i).sign else _)=0
  rw[if_neg (by decide),if_neg ω,if_neg (by decide),if_neg (by decide),if_neg (by decide),if_pos rfl]
  exact MD ((aZ (iT o).1).2 k z) y
 have g:∀d':Dm,nZ d' ⟨5,k,i,⟨#[]⟩,0,((D k).mem i).sign⟩=fj d' i ((D k).mem i).sign:=fun d'=>by
  show fj d' ((i:Int).toNat) _=_
  rw[Int.toNat_natCast]
 have f:mM (bN D k (fj (D k) i sign)) n l ⟨5,k,i,⟨#[]⟩,0,((D k).mem i).sign⟩=0:=by
  unfold mM;rw[if_neg (by simpa using c)]
  simp only[Int.toNat_natCast];rw[if_neg ω,putD_at,t,if_neg (by decide),g,a]
  exact o
 rw[p];refine⟨q,c,f,?_,v _ _ _ _ f⟩;unfold zj;simp only[Int.toNat_natCast];rw[putD_at,g,a]
theorem OL{i x y:Int}(a:x≠i)(b:y≠i)(h:x<y):wo i x<wo i y:=by
 unfold wo
 split<;>split<;>omega
theorem KF{i x y:Int}(a:x≠i)(b:y≠i)(h:wo i x=wo i y):x=y:=by
 unfold wo at h
 split at h<;>split at h<;>omega
theorem Dl{i:Int}:∀(k:Nat) (a b:List Int),a.getD k 0≠i->b.getD k 0≠i->k<a.length->k<b.length->az a b=true->az (a.set k (wo i (a.getD k 0))) (b.set k (wo i (b.getD k 0)))=true
 |_,[],_,_,_,h,_,_=>absurd h (Nat.not_lt_zero _)
 |_,_ :: _,[],_,_,_,h,_=>absurd h (Nat.not_lt_zero _)
 | 0,x :: r,y :: t,h1,h2,_,_,h=>by
  simp only[List.getD_cons_zero,List.set_cons_zero]at h1 h2|-;unfold az at h|-
  by_cases e:x=y
  ·rw[if_pos e]at h
   rw[if_pos (by rw[e])]
   exact h
  rw[if_neg e]at h;rw[if_neg fun c=>e (KF h1 h2 c)]
  exact decide_eq_true (OL h1 h2 (of_decide_eq_true h))
 |k+1,x :: r,y :: t,h1,h2,h3,h4,h=>by
  simp only[List.getD_cons_succ,List.set_cons_succ]at h1 h2|-;unfold az at h|-
  by_cases e:x=y
  ·rw[if_pos e]at h|-
   exact Dl k r t h1 h2 (Nat.lt_of_succ_lt_succ h3) (Nat.lt_of_succ_lt_succ h4) h
  rw[if_neg e]at h|-;exact h
theorem qw{l:List En}{k:Nat}{i:Int}{e:En}(h:e∈jx l k i):e∈l/\e.pl.getD k 0≠i:=by
 unfold jx at h;rw[List.mem_filter]at h;exact⟨h.1,by simpa using h.2⟩
theorem JS{l:List En}{k:Nat}{i:Int}(m:∀e∈l,k<e.pl.length)(h:l.Pairwise fun a b=>az a.pl b.pl=true):(mt l k i).Pairwise fun a b=>az a.pl b.pl=true:=by
 unfold mt;rw[List.pairwise_map];have n:(jx l k i).Pairwise fun a b=>az a.pl b.pl=true:=by
  unfold jx;exact h.filter _
 refine n.imp_of_mem fun{a b} o p f=>?_
 obtain⟨c,d⟩:=qw o;obtain⟨g,j⟩:=qw p;exact Dl k a.pl b.pl d j (m a c) (m b g) f
theorem EU{l:List Int}{k j:Nat}{a:Int}(h:k<l.length):(l.set k a).getD j 0=if j=k then a else l.getD j 0:=by
 rw[zZ,zZ,List.getElem?_set]
 by_cases e:k=j
 ·subst e
  simp[h]
 rw[if_neg e,if_neg fun b=>e b.symm]
theorem Lj{D:Nat->Dm}{n k i:Nat}{l:List En}(A:Ens D n l)(H:k<n)(hi:i<(D k).n)(Q:(ag (bN D k (eR (D k) i)) n).2.2=0)(W:∀j,j<(D k).n->((D k).mem j).parent≠(i:Int)):Ens (bN D k (eR (D k) i)) n (mt l k (i:Int)):=by
 have b:∀e∈l,k<e.pl.length:=fun e f=>by rw[(A.each e f).1.len];exact H
 refine⟨Q,fun Z o=>?_,JS b A.rise⟩
 unfold mt at o;obtain⟨e,f,rfl⟩:=List.mem_map.1 o;obtain⟨f,N⟩:=qw f;obtain⟨d,u,S⟩:=A.each e f;have I:=b e f;have J:=d.lo k H;have F:=d.hi k H;obtain⟨x,O⟩:∃x:Nat,e.pl.getD k 0=x:=⟨(e.pl.getD k 0).toNat,ω⟩
 rw[O]at N J F;have X:x≠i:=fun g=>N (by rw[g])
 obtain⟨y,R,s⟩:∃y:Nat,wo (i:Int) (x:Int)=y/\(if y<i then y else y+1)=x:=by
  unfold wo
  by_cases h:i<x
  ·exact⟨x-1,by rw[if_pos ω];omega,by rw[if_neg ω];omega⟩
  exact⟨x,by rw[if_neg ω],by rw[if_pos ω]⟩
 have Y:y<(D k).n-1:=by
  split at s<;>omega
 have E:∀j,(sm k (i:Int) e).pl.getD j 0=if j=k then(y:Int)else e.pl.getD j 0:=fun j=>by
  show(e.pl.set k (wo (i:Int) (e.pl.getD k 0))).getD j 0=_
  rw[O,R];exact EU I
 have m:InO (bN D k (eR (D k) i)) n (sm k (i:Int) e).pl:=⟨Q,by show(e.pl.set k _).length=n;rw[List.length_set];exact d.len,fun j r=>by
  rw[E]
  split
  ·omega
  ·exact d.lo j r,fun j r=>by
  rw[E]
  by_cases g:j=k
  ·subst g
   rw[if_pos rfl,putD_at]
   show(y:Int)<(((D j).n-1:Nat):Int)
   omega
  rw[if_neg g,b6 D _ g];exact d.hi j r⟩
 refine⟨m,?_,S⟩;have L:placeErr D n e.pl=0:=d.ok;have M:placeErr (bN D k (eR (D k) i)) n (sm k (i:Int) e).pl=0:=m.ok;unfold leafV at u|-;rw[if_pos L]at u;rw[if_pos M];have K:∀j,j<n->bz D e.pl j=false:=fun j r=>by
  rcases findFrom_cases (bz D e.pl) n 0 with⟨_,a⟩|⟨j',a,_⟩
  ·exact a j zU ω
  rw[a]at u
  simp at u
 rw[aN (p:=bz (bN D k (eR (D k) i)) (sm k (i:Int) e).pl) fun j _ r=>?_]
 ·rfl
 have G:j<n:=ω;have a:=K j G;unfold bz at a|-;rw[E]
 by_cases c:j=k
 ·subst c
  rw[if_pos rfl,putD_at,Int.toNat_natCast];rw[O,Int.toNat_natCast]at a;unfold leafB at a|-;have B:fx (D j).mem i y=(D j).mem x:=by
   unfold fx;rw[s]
  have C:((eR (D j) i).mem y).formula=((D j).mem x).formula:=by
   show(fx (D j).mem i y).formula=_
   rw[B]
  have U:findFrom (bD (D j).mem x) (D j).n 0<0->findFrom (bD (eR (D j) i).mem y) (eR (D j) i).n 0<0:=by
   intro h5;have V:(eR (D j) i).n=(D j).n-1:=rfl
   rcases findFrom_cases (bD (eR (D j) i).mem y) (eR (D j) i).n 0 with⟨h6,_⟩|⟨z,_,_,h7,P,_⟩
   ·omega
   have t:(if z<i then z else z+1)<(D j).n:=by
    split<;>omega
   have T:bD (D j).mem x (if z<i then z else z+1)=true:=by
    unfold bD at P|-;have v:wo (i:Int) ((D j).mem (if z<i then z else z+1)).parent=(y:Int):=by
     have:=of_decide_eq_true (p:=((eR (D j) i).mem z).parent=(y:Int)) (by simpa using P)
     exact this
    have w:=KF (W _ t) N (v.trans R.symm)
    simpa using w
   have:=bJ (q:=bD (D j).mem x) (n:=(D j).n) (i:=if z<i then z else z+1) t T
   omega
  rw[C];simp only[Bool.not_eq_false',Bool.and_eq_true,decide_eq_true_eq,Bool.not_eq_true',decide_eq_false_iff_not]at a|-;exact⟨a.1,by have:=U ω;omega⟩
 rw[if_neg c,b6 D _ c];exact a
theorem cex_cu:cuErr uy 1 [⟨[1],7⟩]=0:=by
 unfold cuErr;rw[NE,if_neg σ]
 decide+kernel
theorem o4:(caL uy 1 [⟨[1],7⟩]).length=2:=by rw[fZ cex_cu,xB]
theorem Nb:(caL uy 1 [⟨[1],7⟩]).getD 0 noC=(1,7):=by
 rw[pM cex_cu (by rw[xB];omega)]
 decide+kernel
def jA(w:World):World:=((((w.alloc (.cells #[.string ⟨#[98]⟩,.int .i64 (-1),.int .i64 0,.string ⟨#[]⟩,.string ⟨#[99]⟩,.int .i64 0,.int .i64 1,.string ⟨#[]⟩] 64)).alloc (.cells #[.string ⟨#[97]⟩,.int .i64 0,.slice (some ⟨w.heap.size,0,none⟩) 2 2] 67)).alloc (.cells #[.slice (some ⟨w.heap.size+1,0,none⟩) 1 1] 24)).alloc (.cells #[.int .i64 1] 3)).alloc (.cells #[.slice (some ⟨w.heap.size+3,0,none⟩) 1 1,.int .i64 7] 45)
theorem zi(w:World):Bl w (jA w):=by unfold jA;go_grown
theorem Ej(w:World):aL (jA w) (some ⟨w.heap.size+1,0,none⟩) 1 1 uy (fun _=>some ⟨w.heap.size,0,none⟩) (fun _=>2):=by
 have a:(jA w).heap[w.heap.size]?=some (.cells #[.string ⟨#[98]⟩,.int .i64 (-1),.int .i64 0,.string ⟨#[]⟩,.string ⟨#[99]⟩,.int .i64 0,.int .i64 1,.string ⟨#[]⟩] 64 (0,0)):=by unfold jA;exact jN (jN (jN (jN (wH rfl))))
 have b:(jA w).heap[w.heap.size+1]?=some (.cells #[.string ⟨#[97]⟩,.int .i64 0,.slice (some ⟨w.heap.size,0,none⟩) 2 2] 67 (0,0)):=by unfold jA;exact jN (jN (jN (wH σ)))
 refine⟨zT,Or.inr ⟨w.heap.size+1,0,rfl,(zY b).1,fun i f=>?_⟩⟩
 have c:i=0:=ω;subst c;refine⟨(Lib.cell_of_heap b 0).trans rfl,(Lib.cell_of_heap b 1).trans rfl,(Lib.cell_of_heap b 2).trans rfl,zT,Or.inr ⟨w.heap.size,0,rfl,(zY a).1,fun j d=>?_⟩⟩
 have e:j<2:=d
 rcases j with _|_|j
 ·exact⟨(Lib.cell_of_heap a 0).trans rfl,(Lib.cell_of_heap a 1).trans rfl,(Lib.cell_of_heap a 2).trans rfl,(Lib.cell_of_heap a 3).trans rfl⟩
 ·exact⟨(Lib.cell_of_heap a 4).trans rfl,(Lib.cell_of_heap a 5).trans rfl,(Lib.cell_of_heap a 6).trans rfl,(Lib.cell_of_heap a 7).trans rfl⟩
 omega
def Ek(w:World):List EnL:=[⟨⟨[1],7⟩,some ⟨w.heap.size+3,0,none⟩,1⟩]
theorem He(w:World):bU (jA w) (some ⟨w.heap.size+4,0,none⟩) 1 (Ek w):=by
 have d:el (jA w) (w.heap.size+3) [1]:=by unfold el jA;exact jN (wH σ)
 have b:(jA w).heap[w.heap.size+4]?=some (.cells #[.slice (some ⟨w.heap.size+3,0,none⟩) 1 1,.int .i64 7] 45 (0,0)):=by unfold jA;exact wH σ
 refine⟨zT,by decide,Or.inr ⟨w.heap.size+4,0,rfl,(zY b).1,fun j u c=>?_,fun x a=>?_⟩⟩
 ·rw[Nat.zero_add,Lib.cell_of_heap b,←c]
  simp[Ek,cellsE]
 simp only[Ek,List.mem_cons,List.not_mem_nil,or_false]at a;rw[a];exact d.pl
theorem Nw{w1 w':World}{b o:Nat}{u v:Value}(h:b<w1.heap.size/\w1.cell? ⟨b,o,none⟩=some u/\w1.cell? ⟨b,o+1,none⟩=some v)(a:Bl w1 w'):Bl w1 w'/\w'.cell? ⟨b,o,none⟩=some u/\w'.cell? ⟨b,o+1,none⟩=some v:=⟨a,aM a h.1 h.2.1,aM a h.1 h.2.2⟩
theorem CE(w:World):Rt 4 #[] w (.bool true):=by
 have a:=pN (some ⟨w.heap.size+1,0,none⟩) 1 1 uy (fun _=>some ⟨w.heap.size,0,none⟩) (fun _=>2) (some ⟨w.heap.size+4,0,none⟩) 1 (Ek w) (jA w) (Ej w) (He w)
 have p:lE (Ek w)=[⟨[1],7⟩]:=rfl;have q:(Ek w).length=1:=rfl;rw[p,cex_cu,o4,errV_zero,q]at a;have i:Hid (∀A' t w',eP w' A' t (caL uy 1 [⟨[1],7⟩])->∃b o,A'=some ⟨b,o,none⟩/\2<=t/\b<w'.heap.size/\w'.cell? ⟨b,o,none⟩=some (.int .i64 1)/\w'.cell? ⟨b,o+1,none⟩=some (.int .i64 7)):=fun A' t w' h=>by
  obtain⟨y,-,C|⟨b,o,D,E,F⟩⟩:=h
  ·have:=o4;rw[C]at this;simp at this
  obtain⟨z,A⟩:=F 0 (by rw[o4];omega)
  rw[Nb]at z A;rw[o4]at y;exact⟨b,o,D,y,E,by simpa using z,by simpa using A⟩
 have d:=zi w;have f:(jA w).cell? ⟨w.heap.size+2,0,none⟩=some (.slice (some ⟨w.heap.size+1,0,none⟩) 1 1):=by
  have I:(jA w).heap[w.heap.size+2]?=some (.cells #[.slice (some ⟨w.heap.size+1,0,none⟩) 1 1] 24 (0,0)):=by unfold jA;exact jN (jN (wH σ))
  exact(Lib.cell_of_heap I 0).trans rfl
 obtain⟨W1,c⟩:=ar (jA w);rw[c]at a d f;unfold jA at c;rw[show w.heap.size+3=w.heap.size+1+1+1 from rfl]at c
 rw[show w.heap.size+4=w.heap.size+1+1+1+1 from rfl]at a
 rw[show w.heap.size+2=w.heap.size+1+1 from rfl]at f
 have s:=aa d;have g:=fun w'=>jk 7 w'
 rw[show iI 7=(1,7)from rfl]at g
 have j:=aa g;clear g p q d
 go_enter func4,ntmps4
 go_wp2_with fail;refine a.mono ?_;rintro e w1⟨⟨A1,c1,rfl,k⟩,l⟩;have r:=aa (ad s.o l);obtain⟨bF,oF,rfl,G,n,v,x⟩:=i.o A1 c1 w1 k;have B:Hid (bF<w1.heap.size/\w1.cell? ⟨bF,oF,none⟩=some (.int .i64 1)/\w1.cell? ⟨bF,oF+1,none⟩=some (.int .i64 7)):=⟨n,v,x⟩;clear a l f c k v x n i;go_wp2_with fail
 go_region_held3 (fun w'=>Bl w1 w'/\w'.cell? ⟨bF,oF,none⟩=some (.int .i64 1)/\w'.cell? ⟨bF,oF+1,none⟩=some (.int .i64 7))
  ((refine Nw B.o ?_;go_grown;done))
  (first|(go_at_call 18;refine(j.o _).mono ?_;rintro e w3⟨rfl,m⟩;have u:=ad (W0:=w1) γ m;have H:=u.size;clear m))
 all_goals go_wp2_with fail
 all_goals go_ret
 all_goals exact⟨rfl,ad r.o γ⟩
theorem sx(A B:Option Addr)(o p:Nat)(L:List (Int×Int))(w:World)(t:L.length<=3000)(c:eP w A o L)(d:eP w B p L):Rt 10 #[.slice A L.length o,.slice B L.length p] w (.bool true):=by
 have q:=aa c;have r:=aa d;obtain⟨N,h⟩:=ar L.length;have n:=aa h;rw[h]at t|-;have u:(N:Int)<=3000:=ω;have v:((N:Int) !=(N:Int))=false:=by simp
 clear c d h
 go_enter func10,ntmps10
 go_wp2_with fail
 go_loopg [5] N (fun g s5 wr =>∃(k:Nat),k<=N/\g=N-k/\s5=.int .i64 k/\Bl w wr)
 case atStart=>exact⟨0,zU,rfl,rfl,zS⟩
 case round =>
  obtain⟨k,z,rfl,rfl,b⟩:=hrel;have e:=aa b
  by_cases m:k<N
  ·have s:(k:Int)<(N:Int):=ω;have a:k<L.length:=by rw[n.o];exact m
   obtain⟨i,-,f|⟨b1,o1,rfl,c⟩⟩:=q.o.later b
   ·rw[f]at a;simp at a
   obtain⟨j,-,f|⟨b2,o2,rfl,d⟩⟩:=r.o.later b
   ·rw[f]at a;simp at a
   obtain⟨a1,a2⟩:=c.2 k a;obtain⟨ab,ac⟩:=d.2 k a;rw[n.o]at i j;generalize (L.getD k noC).1=x at a1 ab;generalize (L.getD k noC).2=y at a2 ac;clear c d b;go_wp2_with fail
   first|(go_quiet (fail);go_wp2_with fail)|skip
   go_roundg (N-(k+1))
   case measure=>omega
   case rel=>first|exact⟨k+1,ω,rfl,by go_num,e.o⟩|exact⟨k+1,ω,rfl,by go_num,aj e.o _⟩
  have l:k=N:=ω;subst l;clear b;go_wp2_with fail;go_ret;exact⟨rfl,e.o⟩
def edOf(e:En):Ed:=⟨e.pl,e.n,false⟩
section
variable {D:Nat->Dm} {n:Nat}
theorem Le{l m:List En}{e:En}(a:Ens D n l)(f:e∈l):editErr D n m (edOf e)=0:=by
 obtain⟨b,c,d⟩:=a.each e f;have g:aK D n e.pl=0:=by rw[←gf a.right];exact b.ok
 unfold editErr edOf;rw[if_neg (by simpa using g),if_neg σ,if_neg (by simp[c]),if_neg (by simp[d])]
theorem EJ{l:List En}(d:Ens D n l):∀r k,k+r=l.length->aT D n (l.take k) k ((l.drop k).map edOf)=(l,0,0):=by
 intro r
 induction r with
 |zero =>
  intro k g;have c:k=l.length:=ω;subst c;rw[List.drop_length,List.take_length]
  rfl
 |succ r ih =>
  intro k g;have a:k<l.length:=ω;rw[List.drop_eq_getElem_cons a,List.map_cons,jd _ (Le d (List.getElem_mem a))];have e:editV (l.take k) (edOf l[k])=l.take (k+1):=by
   unfold editV edOf;rw[if_neg σ,List.take_succ_eq_append_getElem a]
   refine JY (fun x h=>?_) _
   obtain⟨j,f,rfl⟩:=List.getElem_of_mem h;have b:j<k:=by rw[List.length_take]at f;omega
   rw[List.getElem_take];exact List.pairwise_iff_getElem.1 d.rise j k ω a b
  rw[e];exact ih (k+1) ω
theorem zM{l:List En}(b:Ens D n l)(d:l.length<=60):doE D n [] (l.map edOf)=0/\doL D n [] (l.map edOf)=l:=by
 have c:Ens D n []:=⟨b.right,fun e h=>(by cases h),List.Pairwise.nil⟩
 have e:editsV D n [] (l.map edOf)=(l,0,0):=by
  unfold editsV;rw[if_neg (by rw[List.length_map];omega),if_neg (by simpa using c.ok)]
  have h:=EJ b l.length 0 ω
  rw[List.take_zero,List.drop_zero]at h;exact h
 have a:doE D n [] (l.map edOf)=0:=by unfold doE;rw[e]
 exact⟨a,by unfold doL;rw[if_pos a,e]⟩
end
theorem G8:(223:Nat)≠61:=by decide
theorem Ea:(9:Nat)≠61:=by decide
theorem sK:(3:Nat)≠61:=by decide
theorem Eb:(149:Nat)≠61:=by decide
theorem G7:(133:Nat)≠61:=by decide
theorem G9:(135:Nat)≠61:=by decide
theorem ey.keepC{w w':World}{x:WL}(h:ey w x)(c:kT 61 w w'):ey w' x :=
 ⟨h.1.keep fun b cs fr a=>c b cs _ fr a G8,h.2.1.keep fun b cs fr a=>c b cs _ fr a Ea,h.2.2.1.keep fun b cs fr a=>c b cs _ fr a sK,h.2.2.2.keep fun b cs fr a=>c b cs _ fr a sK⟩
theorem iy.keepC{w w':World}{A:Option Addr}{cap:Nat}{xs:List WL}(h:iy w A cap xs)(c:kT 61 w w'):iy w' A cap xs:=by
 obtain⟨d,a,e⟩:=h;refine⟨d,?_,fun x f=>(e x f).keepC c⟩
 rcases a with a|⟨b,cs,fr,a,h4,h5⟩
 ·exact Or.inl a
 exact Or.inr ⟨b,cs,fr,a,(c b cs _ fr h4 Eb).trans h4,h5⟩
theorem cM.keepC{w w':World}{q g n:Nat}{D:Nat->Dm}{X:Nat->AL}(h:cM w q g n D X)(e:kT 61 w w'):cM w' q g n D X:=by
 obtain⟨f,d,j,k,c⟩:=h;exact⟨(e _ _ _ _ f G9).trans f,d,(e _ _ _ _ j G7).trans j,k,fun i a b=>⟨(c i a b).1,(c i a b).2.1,(c i a b).2.2.1.keepC e,(c i a b).2.2.2⟩⟩
theorem Fs{w:World}{g x:Nat}{cs:Array Value}{fr:Nat×Nat}{a b:Value}(h:w.heap[g]?=some (.cells cs 61 fr)):kT 61 w ((w.setCell ⟨g,x,none⟩ a).setCell ⟨g,x+1,none⟩ b):=eA (eq h) (eq (dj h))
theorem EL(A:Option Addr)(cap:Nat)(L:List Int)(x:Int)(w:World)(k:L.length<=3000)(d:aJ w A cap L)(g:L.Pairwise (· < ·)):Calls prog 76 #[.slice A L.length cap,.int .i64 x] w fun e w'=>(∃i:Nat,e=.returned (.tuple #[.int .i64 i,.bool (o9 L x)]))/\Bl w w':=by
 obtain⟨-,-,a|⟨b,cs,fr,rfl,-,c⟩⟩:=d
 ·subst a
  refine Calls.mono (Any.slices_BinarySearch_int_empty lays25 A cap x w) ?_;rintro e w'⟨rfl,rfl⟩;exact⟨⟨0,by simp[o9]⟩,zS⟩
 refine Calls.mono (Any.slices_BinarySearch_int lays25 b 0 L.length cap L x w zT ω (fun j f=>by rw[Nat.zero_add];exact c j f) (by rw[List.take_length];exact g.imp fun h=>ω)) ?_
 rintro e w'⟨rfl,q,rfl⟩;rw[List.take_length];have:L.contains x=o9 L x:=by unfold o9;rw[Bool.eq_iff_iff];simp
 rw[this];exact⟨⟨_,rfl⟩,aj zS _⟩
theorem ID{W w':World}{q:Nat}{v:Value}(h:q<W.heap.size/\W.cell? ⟨q,0,none⟩=some v)(a:Bl W w'):Bl W w'/\w'.cell? ⟨q,0,none⟩=some v:=⟨a,aM a h.1 h.2⟩
theorem Aw(A0:Option Addr)(cap n:Nat)(D:Nat->Dm)(A:Nat->Option Addr)(C:Nat->Nat)(Ax:Option Addr)(cx:Nat)(ys:List EdL)(gC cC:Nat)(l:List En)(w0 w:World)(T:(au D n).2.2=0)(hl:Ens D n l)(h0:doE D n l (lD ys)=0)(hM:aL w0 A0 cap n D A C)(hX:oQ w0 Ax cx ys)(hB:Bl w0 w)(hg:w0.heap.size<=gC)(hC:cB w gC (wrTo D n (caL D n l) (lD ys) (lD ys).length))(aT:prodN D n<=cC)(bb:cC<=9223372036854775807):
  Calls prog 33 #[.agg #[.slice A0 n cap],.slice (some ⟨gC,0,none⟩) (prodN D n) cC,.slice Ax ys.length cx] w fun e w'=>e=.returned (.tuple #[.int .i64 (doN D n l (lD ys):Nat),.nilIface])/\cB w' gC (caL D n (doL D n l (lD ys)))/\Bl w0 w':=by
 have Y:=ay w A0 n cap 24;have hS:=aB w A0 n cap 24;have hA:=aU w A0 n cap 24;obtain⟨W,hW⟩:∃W,aE w A0 n cap 24=W:=⟨_,rfl⟩;rw[hW]at Y hS hA;unfold aE at hW;obtain⟨hE,hR⟩:=dZ T;have ar:=Hq hl (lD ys);obtain⟨S,-,-⟩:=kX hl h0;rw[ij]at S;obtain⟨dz,dl,dn⟩:=zy T hl h0;have bo:gC<w.heap.size:=hC.lt;have x:Hid (Bl w0 W):=ad hB Y;have aj:Hid (w.heap.size<W.heap.size/\W.cell? ⟨w.heap.size,0,none⟩=some (.slice A0 n cap)):=⟨ω,hA⟩
 have am:Hid (∀w',Bl W w'->Calls prog 74 #[.slice Ax ys.length cx] w' fun e ab=>(∃A' c,e=.returned (.slice A' ys.length c)/\t7 ab A' c (plD ys))/\Bl w' ab):=fun w' o=>uY Ax cx ys w' S (hX.later (ad x.o o))
 have U:Hid (∀w' A' c,Bl W w'->t7 w' A' c (plD ys)->Calls prog 73 #[.agg #[.slice A0 n cap],.slice A' ys.length c] w' fun e ab=>(∃A2 c2,e=.returned (.tuple #[.slice A2 (drtL D n (ef D n (lD ys))).length c2,.nilIface])/\aJ ab A2 c2 (drtL D n (ef D n (lD ys))))/\Bl w' ab):=fun w' A' c o a9=>by
  have h:=IX A0 cap n D A C A' c (plD ys) w' (hM.later (ad x.o o)) a9 (by rw[plD_len];omega)
  rw[NI,dz,dl,errV_zero,plD_len]at h;exact h
 have V:Hid (∀w',Bl W w'->Calls prog 75 #[.agg #[.slice A0 n cap]] w' fun e ab=>(∃A' c,e=.returned (.tuple #[.slice A' (prodN D n) c,.nilIface])/\aJ ab A' c (coL D n))/\Bl w' ab):=fun w' o=>by
  have h:=Hl A0 cap n D A C w' (hM.later (ad x.o o));rw[T,errV_zero,pV T]at h;exact h
 have aD:Hid (∀w',Bl W w'->Calls prog 26 #[.agg #[.slice A0 n cap]] w' fun e ab=>(∃q g X,e=.returned (.tuple #[.pointer (some ⟨q,0,none⟩),.nilIface])/\cM ab q g n D X)/\Bl w' ab):=fun w' o=>by
  refine(pr A0 cap n D A C w' hE hR (hM.later (ad x.o o))).mono ?_;rintro e ab⟨⟨q,g,X,rfl,-,-,hP⟩,hb⟩;exact⟨⟨q,g,X,rfl,hP⟩,hb⟩
 have aW:(drtL D n (ef D n (lD ys))).length<=3000:=JX hE _;have aw:Hid (∀w' A' c (m:Nat),aJ w' A' c (drtL D n (ef D n (lD ys)))->Calls prog 76 #[.slice A' (drtL D n (ef D n (lD ys))).length c,.int .i64 m] w' fun e ab=>(∃i:Nat,e=.returned (.tuple #[.int .i64 i,.bool (o9 (drtL D n (ef D n (lD ys))) m)]))/\Bl w' ab):=fun w' A' c m h=>EL A' c _ m w' aW h (gK _ _)
 obtain⟨-,-,bf,-⟩:=ao hE;have f:Hid (∀k L,k<prodN D n->DW D n (doL D n l (lD ys)) (drtL D n (ef D n (lD ys))) (coL D n) k L->∃m:Nat,(coL D n).getD k 0=(m:Int)/\m<prodN D n/\(∀z∈ndsX D n m,dq (L.getD z.toNat noC))/\DW D n (doL D n l (lD ys)) (drtL D n (ef D n (lD ys))) (coL D n) (k+1) (L.set m (rW D n L m))/\(o9 (drtL D n (ef D n (lD ys))) (m:Int)=false->DW D n (doL D n l (lD ys)) (drtL D n (ef D n (lD ys))) (coL D n) (k+1) L)/\(coL D n).take (k+1)=(coL D n).take k++[(m:Int)]):=fun k L hk h=>GN T ar hk h
 have E:Hid (∀k L,DW D n (doL D n l (lD ys)) (drtL D n (ef D n (lD ys))) (coL D n) k L->L.length=prodN D n):=fun k L h=>h.1
 have aF:Hid (∀qp g X L m w',cM w' qp g n D X->cB w' gC L->L.length=prodN D n->m<prodN D n->(∀z∈ndsX D n m,dq (L.getD z.toNat noC))->Calls prog 29 #[.pointer (some ⟨qp,0,none⟩),.slice (some ⟨gC,0,none⟩) (prodN D n) cC,.int .i64 m] w' fun e ab=>e=.returned (.tuple #[.agg #[.int .i64 (rW D n L m).1,.int .i64 (rW D n L m).2],.nilIface])/\Bl w' ab):=fun qp g X L m w' hP hC r hm Q=>tG qp g n D X m (some ⟨gC,0,none⟩) cC L w' hR hE hm hP r ⟨by rw[r];exact aT,bb,Or.inr ⟨gC,0,rfl,hC.celAt⟩⟩ Q
 have b:Hid (∀L,DW D n (doL D n l (lD ys)) (drtL D n (ef D n (lD ys))) (coL D n) (prodN D n) L->L=caL D n (doL D n l (lD ys))):=fun L h=>KV T ar h
 have y:Hid (doN D n l (lD ys)=cntD (drtL D n (ef D n (lD ys))) (coL D n) (prodN D n)):=dn.trans (K8 T).symm;have d:Hid (DW D n (doL D n l (lD ys)) (drtL D n (ef D n (lD ys))) (coL D n) 0 (wrTo D n (caL D n l) (lD ys) (lD ys).length)):=D3 T hl h0 _;have F:Hid ((coL D n).length=prodN D n):=pV T;have ak:Hid (cB W gC (wrTo D n (caL D n l) (lD ys) (lD ys).length)):=hC.later Y;generalize wrTo D n (caL D n l) (lD ys) (lD ys).length=L0 at d ak;generalize caL D n (doL D n l (lD ys))=CA at b|-;generalize doN D n l (lD ys)=NN at y|-;generalize doL D n l (lD ys)=l2 at f E b d;generalize drtL D n (ef D n (lD ys))=DR at U aw f E b y d;generalize coL D n=O at V f E b y d F;obtain⟨N,hN⟩:∃N,prodN D n=N:=⟨_,rfl⟩;rw[hN]at V f E aF b y F bf aT|-;have bk:(N:Int)<=3000:=ω;have bm:(N:Int)<=(cC:Int):=ω;generalize ys.length=yl at am U|-;clear hM hX hB hC Y hS hA hE hR hl ar h0 T S dz dl dn aW hN
 go_enter func33,ntmps33
 go_wp2_with fail
 go_cut [8,9]from 17 (fun s8 s9 wx=>s9=.nilIface/\∃A' c,s8=.slice A' DR.length c/\aJ wx A' c DR/\Bl W wx)
 case first =>
  go_region_held3 (fun w'=>Bl W w'/\w'.cell? ⟨w.heap.size,0,none⟩=some (.slice A0 n cap))
   ((refine ID aj.o ?_;go_grown;done))
   (first
    |(go_at_call 74;refine(am.o _ γ).mono ?_;rintro e wa⟨⟨Aa,ca,rfl,bg⟩,aR⟩;have a7:=ad (W0:=W) γ aR;have bt:=a7.size;clear aR)
    |(go_at_call 73;refine(U.o _ _ _ γ (bg.later γ)).mono ?_;rintro e wb⟨⟨Ab,cb,rfl,a5⟩,aS⟩;have a8:=ad (W0:=W) γ aS;have bu:=a8.size;clear aS))
  all_goals go_wp2_with fail
  all_goals go_meet
  all_goals exact⟨rfl,_,_,rfl,a5.later γ,by go_grown⟩
 case rest =>
 clear hW;obtain⟨rfl,Ad,cd,rfl,aI,I⟩:=hcut;obtain⟨w1,rfl⟩:∃wd:World,wd=wc:=⟨_,rfl⟩;have ax:=aa aI;have a1:=aa I;obtain⟨x1,x2⟩:=ID aj.o I;have aZ:w.heap.size<w1.heap.size:=Nat.lt_of_lt_of_le aj.o.1 I.size;have ho:=V.o w1 I;clear aI I x1;go_wp2_with fail;refine ho.mono ?_;rintro e w2⟨⟨Ao,co,rfl,aK⟩,M⟩;have az:=aa aK;have ae:=aa (ax.o.later M);have ai:Hid (Bl W w2):=ad a1.o M;have c2:=(M.cell (p:=⟨w.heap.size,0,none⟩) aZ).trans x2;have br:w.heap.size<w2.heap.size:=Nat.lt_of_lt_of_le aZ M.size;have aY:=aD.o w2 ai.o;clear aK M ho x2;go_wp2_with fail;refine aY.mono ?_;rintro e w3⟨⟨q,g,X,rfl,aN⟩,P⟩;have af:Hid (cB w3 gC L0/\cM w3 q g n D X/\aJ w3 Ad cd DR/\aJ w3 Ao co O/\Bl w0 w3):=⟨ak.o.later (ad ai.o P),aN,ae.o.later P,az.o.later P,ad x.o (ad ai.o P)⟩;clear aN P aY c2 az ae ax aD V U am ak;go_wp2_with fail
 go_loopg [9,12,45] N (fun gg s9 bh bi wr =>∃(k:Nat),k<=N/\gg=N-k/\bi=.int .i64 k/\bh=.int .i64 (cntD DR O k:Nat)/\s9=.nilIface/\Hid (∃L,cB wr gC L/\DW D n l2 DR O k L)/\Hid (cM wr q g n D X/\aJ wr Ad cd DR/\aJ wr Ao co O/\Bl w0 wr))
 case atStart=>exact⟨0,Nat.zero_le _,rfl,rfl,rfl,rfl,aa ⟨L0,af.o.1,d.o⟩,aa af.o.2⟩
 case round =>
  obtain⟨k,hk,rfl,rfl,rfl,rfl,HL,HI⟩:=hrel
  by_cases aX:k<N
  ·have bp:(k:Int)<(N:Int):=ω;obtain⟨L,j,t⟩:=HL.o;obtain⟨m,hm,av,Q,G,H,ah⟩:=f.o k L aX t;have r:=E.o k L t;obtain⟨hP,J,K,Z⟩:=HI.o;obtain⟨bc,-,ba|⟨bs,cs,fr,rfl,ap,aq⟩⟩:=id K
   ·have:=F.o;rw[ba]at this;simp at this;omega
   have cx:=aq k (by rw[F.o];exact aX)
   have bl:bs<wr.heap.size:=(Array.getElem?_eq_some_iff.1 ap).1;rw[F.o]at bc;rw[hm]at cx;have bd:(N:Int)<=(co:Int):=ω;have bq:(m:Int)<(N:Int):=ω;have v:=aw.o wr Ad cd m J;have aV:=K7 DR O k;have ag:((cntD DR O k:Nat):Int)<=(k:Int):=ω;cases hin:o9 DR (m:Int)
   ·have al:Hid (∀w5,Bl wr w5->(∃L,cB w5 gC L/\DW D n l2 DR O (k+1) L)/\cM w5 q g n D X/\aJ w5 Ad cd DR/\aJ w5 (some ⟨bs,0,none⟩) co O/\Bl w0 w5):=fun w5 a=>⟨⟨L,j.later a,H hin⟩,hP.later a,J.later a,K.later a,ad Z a⟩
    have B:=aa (Hi ah hin);rw[hin]at v;clear aq ap hm Q t G H ah j hP J K Z hin r;generalize cntD DR O k=ck at B aV ag;go_wp2_with fail;refine v.mono ?_;rintro e w5⟨⟨i,rfl⟩,a⟩;have aC:=aa (al.o w5 a);clear a v;go_wp2_with fail
    go_roundg (N-(k+1))
    case measure=>omega
    case rel=>exact⟨k+1,ω,rfl,by go_num,by rw[B.o],rfl,aa aC.o.1,aa aC.o.2⟩
   ·have B:=aa (K9 ah hin)
    have ac:=aa G;have aA:=aa r;have al:Hid (∀w5,Bl wr w5->cB w5 gC L/\cM w5 q g n D X/\aJ w5 Ad cd DR/\aJ w5 (some ⟨bs,0,none⟩) co O/\Bl w0 w5):=fun w5 a=>⟨j.later a,hP.later a,J.later a,K.later a,ad Z a⟩
    have an:Hid (∀w5,Bl wr w5->Calls prog 29 #[.pointer (some ⟨q,0,none⟩),.slice (some ⟨gC,0,none⟩) N cC,.int .i64 m] w5 fun e ab=>e=.returned (.tuple #[.agg #[.int .i64 (rW D n L m).1,.int .i64 (rW D n L m).2],.nilIface])/\Bl w5 ab):=fun w5 a=>aF.o q g X L m w5 (hP.later a) (j.later a) r av Q
    rw[hin]at v;clear aq ap hm Q t G H ah j hP J K Z hin r;obtain⟨⟨ra,rb⟩,aP⟩:∃R,rW D n L m=R:=⟨_,rfl⟩;rw[aP]at an ac;simp only at an;clear aP;generalize cntD DR O k=ck at B aV ag;go_wp2_with fail;refine v.mono ?_;rintro e w5⟨⟨i,rfl⟩,a⟩;have a2:=aa a;have a0:=an.o w5 a;clear a v;go_wp2_with fail;refine a0.mono ?_;rintro e w6⟨rfl,aQ⟩;obtain⟨u,aO,aH,aM,aG⟩:=al.o w6 (ad a2.o aQ);obtain⟨r0,r1⟩:=u.at (k:=m) (by rw[aA.o];exact av)
    have f0:=u.frozen (m*2);have f1:=u.frozen (m*2+1);have bn:=u.lt;have a3:Hid (cB ((w6.setCell ⟨gC,m*2,none⟩ (.int .i64 ra)).setCell ⟨gC,m*2+1,none⟩ (.int .i64 rb)) gC (L.set m (ra,rb))):=u.set (by rw[aA.o];exact av) ra rb
    obtain⟨bj,s,-⟩:=u;have a4:Hid (cM ((w6.setCell ⟨gC,m*2,none⟩ (.int .i64 ra)).setCell ⟨gC,m*2+1,none⟩ (.int .i64 rb)) q g n D X/\aJ ((w6.setCell ⟨gC,m*2,none⟩ (.int .i64 ra)).setCell ⟨gC,m*2+1,none⟩ (.int .i64 rb)) Ad cd DR/\aJ ((w6.setCell ⟨gC,m*2,none⟩ (.int .i64 ra)).setCell ⟨gC,m*2+1,none⟩ (.int .i64 rb)) (some ⟨bs,0,none⟩) co O/\Bl w0 ((w6.setCell ⟨gC,m*2,none⟩ (.int .i64 ra)).setCell ⟨gC,m*2+1,none⟩ (.int .i64 rb))):=⟨aO.keepC (Fs s),m5 aH s,m5 aM s,(aG.setCell hg _).setCell hg _⟩;clear aQ a0 s aO aH aM aG;go_wp2_with fail
    go_roundg (N-(k+1))
    case measure=>omega
    case rel=>exact⟨k+1,ω,rfl,by go_num,by rw[B.o];go_num,rfl,aa ⟨_,a3.o,ac.o⟩,a4⟩
  ·have be:k=N:=ω;subst be;have HF:Hid (cB wr gC CA/\Bl w0 wr):=by
    obtain⟨L,j,t⟩:=HL.o;have a6:=b.o L t;rw[a6]at j;exact⟨j,HI.o.2.2.2⟩
   go_wp2_with fail;go_returns;refine⟨?_,HF.o⟩;rw[y.o]
   rfl
end Go.Proofs.YtjfampgnhccodaaGreatDoor
