/- A formula's text read -/
import Derived.Test.YtjfampgnhccodaaGreatDoorJTAX
namespace Go.Proofs.YtjfampgnhccodaaGreatDoor
open Tryz Go ChangeShapes WideShapes ChangeAt RowKit Lib
set_option maxRecDepth 99999
set_option maxHeartbeats 0
def OP(w:World)(N:Nat)(A:Option Addr)(c:Nat)(L:List Nd):Prop:=w.ownsRow N 223 5 (.slice A L.length c) L.length (bV L)
theorem GW(N p:Nat)(b:Bld)(w:World)(o:N<=w.heap.size)(j:b.nodes.length+opsN b.waiting<=200)(l:b.ready.length<=200)(m:opsN b.waiting+1<=b.ready.length)(n:b.waiting.length<=200)(d:dh N p b w):
  Calls prog 196 #[.pointer (some ⟨p,0,none⟩)] w fun e w'=>(∃A c,e=.returned (.slice A (settleB 0 b).nodes.length c)/\OP w' N A c (settleB 0 b).nodes)/\Kept N (fun k=>k=p) w w':=by
 have h:=js N p b 0 w o j l m n d;generalize settleB 0 b=b1 at *;clear d
 go_enter func196,ntmps196
 go_wp2_with fail;refine h.mono ?_;rintro e w1⟨rfl,⟨AN,q,AR,r,AW,s,a⟩,f⟩;have c0:=a.c0;have i:=aa a.nod;have g:=aa f;clear a f h;go_wp2_with fail;go_ret;exact⟨⟨_,_,rfl,i.o⟩,g.o⟩
theorem z7(s:ByteArray)(w:World)(y:s.size<=100):Calls prog 143 #[.string s] w fun e w'=>(∃A c,e=.returned (.tuple #[.slice A (bK s).length c,.int .i64 (mo s:Int),errV (prsE s)])/\OP w' (w.heap.size+4) A c (bK s))/\Bl w w':=by
 have ae:∀(fn:Fn) (first cap:Array Value) (w:World),(Instr.makeFunc fn first cap).run prog w=.ok (.func fn first cap) w:=fun _ _ _ _=>rfl
 have S:(s.size:Int)<=100:=ω;have D:Hid ((eZ s).1.at'<=s.size):=GP _ zU;have i:=te (tkB (w.heap.size+4) w.heap.size) (Ko _ _) s noB (ld w) (by show s.size<=100;exact y) (by rw[gu];rfl) (by rw[gu];exact Nat.lt_succ_self _) (Dt w) Dd (eZ s) rfl
 have E:Hid (Bl w (ld w)):=qI w;obtain⟨W,hW⟩:=ar (ld w);have HZ:Hid ((ld w).heap.size=w.heap.size+1):=gu w;rw[hW]at i E HZ;unfold ld at hW;have U:(tkB (w.heap.size+4) w.heap.size).fv=.func (.func 193) #[.pointer (some ⟨w.heap.size,0,none⟩)] #[]:=rfl;rw[U]at i;have HI:Hid (∀st w',(tkB (w.heap.size+4) w.heap.size).I st w'->dh (w.heap.size+4) w.heap.size st w'):=fun _ _ h=>h
 have HG:Hid (∀a o ph st,(tkB (w.heap.size+4) w.heap.size).G a o ph st->FitB a o ph st):=fun _ _ _ _ h=>h
 have O:Hid ((tkB (w.heap.size+4) w.heap.size).p=w.heap.size/\(tkB (w.heap.size+4) w.heap.size).N=w.heap.size+4):=⟨rfl,rfl⟩;generalize tkB (w.heap.size+4) w.heap.size=T at *;cases hx:(eZ s).2
 ·have q:prsE s=2:=by unfold prsE;rw[if_neg ω,if_neg (by rw[hx];decide)]
  have z:mo s=(eZ s).1.at':=by unfold mo;rw[if_neg ω,if_neg (by rw[hx];decide)]
  have Z:bK s=[]:=by unfold bK;rw[if_neg (by rw[q];decide)]
  rw[q,z,Z,ac (by decide)]
  have P:=aa hx;clear q z Z hx
  go_enter func143,ntmps143
  go_wp2_with fail;refine i.mono ?_;rintro e w1⟨⟨B,-⟩,⟨R,-⟩|⟨-,rfl⟩⟩
  ·exact absurd (P.o.symm.trans R) (by decide)
  have b:Hid (Bl w w1):=fI E.o B (by rw[O.o.1];exact zT)
  rw[ac (by decide)]
  clear B i;go_wp2_with fail;go_returns;exact⟨⟨none,0,rfl,World.ownsRow_nil _ _ _ _⟩,b.o⟩
 have q:prsE s=ax (fU s):=by unfold prsE;rw[if_neg ω,if_pos hx]
 have z:mo s=0:=by unfold mo;rw[if_neg ω,if_pos hx]
 have P:=aa hx;have F:=aa q;have n:Hid (bK s=if prsE s=0 then fU s else[]):=rfl
 have M:Hid (fU s=(settleB 0 (eZ s).1.st).nodes):=rfl;rw[q,z];clear q z hx
 go_enter func143,ntmps143
 go_wp2_with fail;refine i.mono ?_;rintro e w1⟨⟨B,C⟩,⟨-,rfl,Y,X⟩|⟨R,-⟩⟩
 case inr=>exact absurd (P.o.symm.trans R) (by decide)
 have b:Hid (Bl w w1):=fI E.o B (by rw[O.o.1];exact zT)
 obtain⟨f1,Q,f3,f4,f5⟩:=HG.o _ _ _ _ X;simp only[if_true]at Q;rw[O.o.2]at C;have ab:(eZ s).1.at'<=200:=by have:=D.o;omega
 have j:=GW (w.heap.size+4) w.heap.size (eZ s).1.st w1 C ω ω Q ω (HI.o _ _ Y)
 clear B i Y X f1 Q f3 f4 f5;rw[←M.o]at j;obtain⟨L,r⟩:=ar (fU s);have x:=aa r;rw[r]at j F n;clear r;go_wp2_with fail;refine j.mono ?_;rintro e w2⟨⟨A,c,rfl,t⟩,g⟩;have u:Hid (Bl w w2):=⟨g.os.trans b.o.os,g.tape.trans b.o.tape,g.output.trans b.o.output,zV b.o.size g.size,fun k V=>by rw[g.block k ω ω];exact b.o.block k V⟩
 have J:=aa t;have f:=jO A c L w2 (Bm t);clear g t j
 by_cases l:ax L=0
 ·have v:Hid (bK s=L):=by show _=_;rw[n.o,F.o,if_pos l]
  rw[l,errV_zero]at f;have H:=aa l;clear l;go_wp2_with fail;refine f.mono ?_;rintro e w3⟨rfl,d⟩;have m:=aa (ad u.o d);have K:Hid (OP w3 (w.heap.size+4) A c L):=ak J.o d;clear d f;go_wp2_with fail;go_returns;exact⟨⟨A,c,by rw[v.o,x.o,H.o];rfl,by rw[v.o];exact K.o⟩,m.o⟩
 have v:Hid (bK s=[]):=by show _=_;rw[n.o,F.o,if_neg l]
 rw[ac l]at f;have H:Hid (errV (ax L)=.iface 71 (.int .i64 (ax L))):=ac l;clear l;go_wp2_with fail;refine f.mono ?_;rintro e w3⟨rfl,d⟩;have m:=aa (ad u.o d);clear d f;go_wp2_with fail;go_returns;exact⟨⟨none,0,by rw[v.o,x.o,H.o];rfl,by rw[v.o];exact World.ownsRow_nil _ _ _ _⟩,m.o⟩
def kD(old new:ByteArray)(x:Nd):Nd:=if x.op=2/\same x.name old=true then⟨x.op,x.n,new,x.left,x.right⟩else x
def oT(old:ByteArray)(l:List Nd):Bool:=l.any fun x=>decide (x.op=2)&&same x.name old
def nG(old new:ByteArray)(l:List Nd):List Nd:=l.map (kD old new)
def refT(old new t:ByteArray):ByteArray:=if t.size=0 then t else if oT old (bK t)=true then jY (nG old new (bK t))else t
theorem Mk{old new:ByteArray}(a:nameErr new=0){x:Nd}{i:Nat}(h:ndErr x i=0):ndErr (kD old new x) i=0:=by
 unfold kD
 split
 ·rename_i h2
  unfold ndErr at h|-;simp only[h2.1]at h|-;simp only[a]at *
  simp at h|-
  omega
 exact h
theorem JN(old new:ByteArray)(x:Nd)(k:Nat):uses (kD old new x) k=uses x k:=by unfold kD;split<;>rfl
theorem NM(old new:ByteArray):kD old new bT=bT:=by unfold kD;rw[if_neg (by intro h;exact absurd h.1 (by decide))]
theorem renL_at(old new:ByteArray)(l:List Nd)(i:Nat):(nG old new l).getD i bT=kD old new (l.getD i bT):=by
 unfold nG;rw[zZ,zZ,List.getElem?_map];cases l[i]? with
 |none=>exact(NM old new).symm
 |some x=>rfl
theorem tI(old new:ByteArray)(l:List Nd)(m:Nat):∀k,usedTo (nG old new l) k m=usedTo l k m
 | 0=>rfl
 |k+1=>by rw[usedTo,usedTo,tI old new l m k,renL_at,JN]
theorem iR(old new:ByteArray)(l:List Nd):(nG old new l).length=l.length:=List.length_map ..
theorem JM{old new:ByteArray}(b:nameErr new=0){l:List Nd}(h:ax l=0):ax (nG old new l)=0:=by
 obtain⟨a1,a2,a3,a4⟩:=dH h;refine td (by rw[iR];omega) (by rw[iR];exact a2) (fun j a=>?_) fun j a=>?_
 ·rw[iR]at a
  unfold ig;rw[renL_at];exact decide_eq_false fun e=>e (Mk (old:=old) b (a3 j a))
 rw[iR]at a;unfold ma;rw[iR,tI];have:=a4 j a
 simp[this]
def eM(old new:ByteArray)(l:List Nd)(j:Nat):List Nd:=(l.take j).map (kD old new)++l.drop j
theorem gv(old new:ByteArray)(l:List Nd)(j:Nat):(eM old new l j).length=l.length:=by unfold eM;simp;omega
theorem rA(old new:ByteArray)(l:List Nd){j:Nat}(a:j<l.length):(eM old new l j).getD j bT=l.getD j bT:=by
 unfold eM;rw[zZ,List.getElem?_append_right (by simp;omega),List.getElem?_drop,zZ]
 congr 2
 simp
 omega
theorem FW(old new:ByteArray)(l:List Nd){j:Nat}(c:j<l.length):eM old new l (j+1)=(eM old new l j).set j (kD old new (l.getD j bT)):=by
 refine List.ext_getElem? fun m=>?_
 rw[List.getElem?_set];have d:=gv old new l j
 by_cases a:j=m
 ·subst a
  rw[if_pos rfl,if_pos ω]
  unfold eM;rw[List.getElem?_append_left (by simp;omega),List.getElem?_map,List.getElem?_take,if_pos ω,zZ,zX c]
  rfl
 rw[if_neg a];unfold eM
 by_cases b:m<j
 ·rw[List.getElem?_append_left (by simp;omega),List.getElem?_append_left (by simp;omega),List.getElem?_map,List.getElem?_map,List.getElem?_take,List.getElem?_take,if_pos b,if_pos ω]
 rw[List.getElem?_append_right (by simp;omega),List.getElem?_append_right (by simp;omega),List.getElem?_drop,List.getElem?_drop]
 congr 1
 simp
 omega
theorem FV(old new:ByteArray)(l:List Nd):eM old new l l.length=nG old new l:=by
 unfold eM nG;rw[List.take_length,List.drop_length,List.append_nil]
theorem vW{L:List Nd}(x:Nd)(nm:ByteArray):∀ {j:Nat},j<L.length->L.getD j bT=x->(bV L).set (j*5+2) (.string nm)=bV (L.set j ⟨x.op,x.n,nm,x.left,x.right⟩):=by
 induction L with
 |nil=>intro j h;cases h
 |cons y r ih =>
  intro j b a;cases j with
  |zero =>
   simp only[List.getD_cons_zero]at a;subst a
   rfl
  |succ j =>
   rw[show(j+1)*5+2=(j*5+2)+5 by omega]
   show(iB y++bV r).set (j*5+2+5) _=iB y++bV (r.set j _)
   rw[List.set_append_right _ _ (by show 5<=_;omega),show j*5+2+5-(iB y).length=j*5+2 by show j*5+2+5-5=_;omega,ih (by simpa using b) (by simpa using a)]
theorem Iv{old:ByteArray}{l:List Nd}{j:Nat}(a:j<l.length):oT old (l.take (j+1))=(oT old (l.take j)||(decide ((l.getD j bT).op=2)&&same (l.getD j bT).name old)):=by
 unfold oT;rw[List.take_succ_eq_append_getElem a,List.any_append,zZ,zX a]
 simp
theorem Mq(s new old:ByteArray)(b1 b2:Nat)(w:World)(a:w.cell? ⟨b1,0,none⟩=some (.string new))(b:w.cell? ⟨b2,0,none⟩=some (.string old)):
  Rt 96 #[.string s,.pointer (some ⟨b1,0,none⟩),.pointer (some ⟨b2,0,none⟩)] w (.tuple #[.string new,.bool (same s old)]):=by
 go_enter func96,ntmps96
 go_upto_region 1 with fail
 go_quiet (fail)
 go_wp2_with fail;go_returns;exact⟨by simp[same],aj (Below.refl _ w) _⟩
theorem M8{t:ByteArray}(h:t.size=0):t=⟨#[]⟩:=by
 cases t with
 |mk d=>congr;exact Array.eq_empty_of_size_eq_zero h
theorem FQ(t new old:ByteArray)(b1 b2:Nat)(w:World)(h1:w.cell? ⟨b1,0,none⟩=some (.string new))(h2:w.cell? ⟨b2,0,none⟩=some (.string old))(ht:t.size=0\/(t.size<=100/\prsE t=0))(hn:nameErr new=0)(hE:kz w):
  Rt 95 #[.string t,.func (.func 96) #[] #[.pointer (some ⟨b1,0,none⟩),.pointer (some ⟨b2,0,none⟩)]] w (.tuple #[.string (refT old new t),errV 0]):=by
 by_cases J:t.size=0
 ·have ag:t.toList.isEmpty=true:=by rw[b9];simpa using J
  have hR:refT old new t=⟨#[]⟩:=by unfold refT;rw[if_pos J];exact M8 J
  rw[hR];clear hR J ht
  go_enter func95,ntmps95
  go_wp2_with fail;go_returns;exact⟨rfl,zS⟩
 obtain⟨U,O⟩:=ht.resolve_left J;have ag:t.toList.isEmpty=false:=by rw[b9];simpa using J
 have Z:=z7 t w U;rw[O,errV_zero]at Z;have E:=Il O;have HR:Hid (refT old new t=if oT old (bK t)=true then jY (nG old new (bK t))else t):=by show _=_;unfold refT;rw[if_neg J]
 obtain⟨l,hl⟩:=ar (bK t);rw[hl]at Z E HR;obtain⟨f1,f2,-,-⟩:=dH E;have HF:=aa E;have HN:=aa hn;have HE:=aa hE;have ab:=aa h1;have ac:=aa h2;have X:=World.block_lt_of_cell? _ _ h1;have Y:=World.block_lt_of_cell? _ _ h2;obtain⟨n,M⟩:=ar l.length;have T:=aa M;rw[M]at Z f1 f2;have aq:(n:Int)<=30:=ω;clear ht O hl E hn hE h1 h2 M
 go_enter func95,ntmps95
 go_wp2_with fail;refine Z.mono ?_;rintro e w1⟨⟨A,c,rfl,S⟩,W⟩;unfold OP at S;rw[T.o]at S;obtain⟨g,cg,af⟩:=NG S f1;cases af;have ae:Hid (w1.ownsRow (w.heap.size+4) 223 5 (.slice (some ⟨g,0,none⟩) n c) n (bV (eM old new l 0))/\Bl w w1):=⟨S,W⟩;have am:(n:Int)<=(c:Int):=by have:=(aG S).2.2.1;omega
 clear S W Z;go_wp2_with fail
 go_loopg [9,27] n (fun gg s9 al wr =>∃j:Nat,j<=n/\gg=n-j/\s9=.bool (oT old (l.take j))/\al=.int .i64 j/\Hid (wr.ownsRow (w.heap.size+4) 223 5 (.slice (some ⟨g,0,none⟩) n c) n (bV (eM old new l j))/\Bl w wr))
 case atStart=>exact⟨0,zU,rfl,rfl,rfl,ae⟩
 case round =>
  obtain⟨j,hj,rfl,rfl,rfl,R⟩:=hrel
  by_cases ai:j<n
  ·have ap:(j:Int)<(n:Int):=ω;have o:j<l.length:=by rw[T.o];exact ai
   have a:=R.o.1;obtain⟨an,ao,-,-,cu,K⟩:=aG a;obtain⟨x0,x1,F,x3,x4⟩:=mL (eM old new l j) j (by rw[gv];exact o)
   rw[rA old new l o]at x0 x1 F x3 x4;have e0:=(a.cellAt (j*5) ω).trans x0
   have e1:=(a.cellAt (j*5+1) ω).trans x1
   have e2:=(a.cellAt (j*5+2) ω).trans F
   have e3:=(a.cellAt (j*5+3) ω).trans x3
   have e4:=(a.cellAt (j*5+4) ω).trans x4
   have k:=FW old new l o;have b:=Iv (old:=old) o;have r:=fun nm=>vW (L:=eM old new l j) (l.getD j bT) nm (by rw[gv];exact o) (rA old new l o)
   have h:(eM old new l j).set j (l.getD j bT)=eM old new l j:=by
    refine List.ext_getElem? fun m=>?_
    rw[List.getElem?_set]
    split
    ·rename_i e
     subst e;rw[if_pos (by rw[gv];exact o)]
     have:=rA old new l o;rw[zZ,zX (by rw[gv];exact o)]at this
     rw[zX (by rw[gv];exact o),←this]
     rfl
    rfl
   generalize l.getD j bT=x at e0 e1 e2 e3 e4 k b r h F;obtain⟨op,H,C,G,I⟩:=x;simp only at e0 e1 e2 e3 e4 b F;obtain⟨z,hz⟩:=ar (wr.alloc (.cells #[.int .i64 op,.int .i64 H,.string C,.int .i64 G,.int .i64 I] 223));have s:Bl wr z:=by rw[←hz];go_grown
   have B:z.heap[wr.heap.size]?=some (.cells #[.int .i64 op,.int .i64 H,.string C,.int .i64 G,.int .i64 I] 223 (0,0)):=by rw[←hz];exact heap_alloc_new ..
   have au:wr.heap.size<z.heap.size:=by rw[←hz];simp
   have z0:z.cell? ⟨wr.heap.size,0,none⟩=some (.int .i64 op):=(Lib.cell_of_heap B 0).trans rfl;have z2:z.cell? ⟨wr.heap.size,2,none⟩=some (.string C):=(Lib.cell_of_heap B 2).trans rfl;have d:=ad R.o.2 s;have HZ:=aa d
   by_cases y:op=2
   ·subst y
    have f:=Mq C new old b1 b2 z (aM d X ab.o) (aM d Y ac.o);cases hsm:same C old
    ·rw[hsm]at f b
     have i:kD old new ⟨2,H,C,G,I⟩=⟨2,H,C,G,I⟩:=by unfold kD;rw[if_neg (by rintro⟨-,e⟩;rw[hsm]at e;cases e)]
     have p:Hid (∀w2,Bl z w2->(w2.ownsRow (w.heap.size+4) 223 5 (.slice (some ⟨g,0,none⟩) n c) n (bV (eM old new l (j+1)))/\Bl w w2)/\oT old (l.take (j+1))=oT old (l.take j)):=fun w2 V=>⟨⟨by rw[k,i,h];exact ak a (ad s V),ad d V⟩,by rw[b];simp⟩
     clear i hsm d s B a K x0 x1 F x3 x4 k b r h;go_wp2_with fail;refine f.mono ?_;rintro e w2⟨rfl,q⟩;have D:=aa (p.o w2 q);clear q f z0 z2 e0 e1 e2 e3 e4 hz;go_wp2_with fail
     go_roundg (n-(j+1))
     case measure=>omega
     case rel=>exact⟨j+1,ω,rfl,by rw[D.o.2],by go_num,aa D.o.1⟩
    rw[hsm]at f b;have i:kD old new ⟨2,H,C,G,I⟩=⟨2,H,new,G,I⟩:=by unfold kD;rw[if_pos ⟨rfl,hsm⟩]
    have u:=r new;simp only at u;have p:Hid (∀w2,Bl z w2->(((w2.setCell ⟨g,j*5+2,none⟩ (.string new)).ownsRow (w.heap.size+4) 223 5 (.slice (some ⟨g,0,none⟩) n c) n (bV (eM old new l (j+1)))/\Bl w (w2.setCell ⟨g,j*5+2,none⟩ (.string new)))/\oT old (l.take (j+1))=true)/\w2.cell? ⟨g,j*5+2,none⟩=some (.string C)/\w2.frozen? ⟨g,j*5+2,none⟩=false):=fun w2 V=>by
     have P:=ak a (ad s V);refine⟨⟨⟨?_,(ad d V).setCell (by show _<=g;omega) _⟩,by rw[b];simp⟩,(P.cellAt (j*5+2) ω).trans F,P.frozenAt _⟩
     have h3:=(P.stored (j*5+2) (.string new)).1;rw[u]at h3;rw[k,i];exact h3
    clear i hsm d s B a K x0 x1 F x3 x4 k b r h u;go_wp2_with fail;refine f.mono ?_;rintro e w2⟨rfl,q⟩;obtain⟨p1,p2,p3⟩:=p.o w2 q;have D:=aa p1;clear q f z0 z2 e0 e1 e2 e3 e4 hz p1;go_wp2_with fail
    go_roundg (n-(j+1))
    case measure=>omega
    case rel=>exact⟨j+1,ω,rfl,by rw[D.o.2],by go_num,aa D.o.1⟩
   have aj:(op != 2)=true:=by simpa using y
   have i:kD old new ⟨op,H,C,G,I⟩=⟨op,H,C,G,I⟩:=by unfold kD;rw[if_neg (fun e=>y e.1)]
   have hd:decide (op=2)=false:=decide_eq_false y;rw[hd]at b;have p:Hid ((z.ownsRow (w.heap.size+4) 223 5 (.slice (some ⟨g,0,none⟩) n c) n (bV (eM old new l (j+1)))/\Bl w z)/\oT old (l.take (j+1))=oT old (l.take j)):=⟨⟨by rw[k,i,h];exact ak a s,d⟩,by rw[b];simp⟩
   clear i y hd d s B a K x0 x1 F x3 x4 k b r h;go_wp2_with fail
   go_roundg (n-(j+1))
   case measure=>omega
   case rel=>exact⟨j+1,ω,rfl,by rw[p.o.2],by go_num,aa p.o.1⟩
  have ah:j=n:=ω;subst ah;have Q:l.take j=l:=List.take_of_length_le (by rw[T.o];exact zT)
  rw[Q];cases hh:oT old l
  ·have D:Hid (refT old new t=t/\Bl w wr):=⟨by rw[HR.o,if_neg (by rw[hh];decide)],R.o.2⟩
   clear hh Q;go_wp2_with fail;go_returns;exact⟨by rw[D.o.1];rfl,D.o.2⟩
  have D:Hid (refT old new t=jY (nG old new l)):=by show _=_;rw[HR.o,if_pos hh]
  have a:=R.o.1;rw[show eM old new l j=nG old new l by rw[←T.o];exact FV old new l]at a
  have v:(nG old new l).length=j:=by rw[iR];exact T.o
  have PT:=z8 (some ⟨g,0,none⟩) c (nG old new l) wr (HE.o.later R.o.2) (Bm (N:=w.heap.size+4) (by rw[v];exact a))
  rw[v,JM HN.o HF.o,errV_zero]at PT;have HB:=aa R.o.2;clear hh Q a v;go_wp2_with fail;refine PT.mono ?_;rintro e w2⟨rfl,q⟩;have hF:=aa (ad HB.o q);clear q;go_wp2_with fail;go_returns;exact⟨by rw[D.o];rfl,hF.o⟩
def eo(M:Nat->Mem)(i:Nat)(new:ByteArray)(j:Nat):Nat->Mem:=fun x=>⟨if x=i then new else(M x).name,(M x).parent,(M x).sign,if x<j then refT (M i).name new (M x).formula else(M x).formula⟩
def kC(d:Dm)(i:Nat)(new:ByteArray):Dm:=⟨d.name,d.solve,d.n,fun x=>⟨if x=i then new else(d.mem x).name,(d.mem x).parent,(d.mem x).sign,refT (d.mem i).name new (d.mem x).formula⟩⟩
theorem FZ(M:Nat->Mem)(i:Nat)(new:ByteArray):jp M i ⟨new,(M i).parent,(M i).sign,(M i).formula⟩=eo M i new 0:=by
 funext x
 unfold jp eo
 by_cases e:x=i
 ·subst e;rw[if_pos rfl,if_pos rfl,if_neg (Nat.not_lt_zero _)]
 rw[if_neg e,if_neg e,if_neg (Nat.not_lt_zero _)]
theorem JT(M:Nat->Mem)(i:Nat)(new:ByteArray)(j:Nat):jp (eo M i new j) j ⟨(eo M i new j j).name,(eo M i new j j).parent,(eo M i new j j).sign,refT (M i).name new (M j).formula⟩=eo M i new (j+1):=by
 funext x
 unfold jp
 by_cases e:x=j
 ·subst e
  rw[if_pos rfl];unfold eo;rw[if_pos (Nat.lt_succ_self _)]
 rw[if_neg e];unfold eo
 by_cases h:x<j
 ·rw[if_pos h,if_pos (show x<j+1 by omega)]
 rw[if_neg h,if_neg (show ¬x<j+1 by omega)]
def oX(d:Dm)(i:Nat)(new:ByteArray):Int:=if nameErr new≠0 then nameErr new else if same new (d.mem i).name=false/\0<=findFrom (fun j=>same (d.mem j).name new) d.n 0 then 7 else 0
def KQ(w:World)(b5 b8:Nat)(new old:ByteArray):Prop:=w.heap[b5]?=some (.cells #[.string new] 9 (0,0))/\w.heap[b8]?=some (.cells #[.string old] 9 (0,0))
theorem KQ.later{w w':World}{b5 b8:Nat}{new old:ByteArray}(h:KQ w b5 b8 new old)(a:Bl w w'):KQ w' b5 b8 new old:=⟨(a.block _ (zY h.1).1).trans h.1,(a.block _ (zY h.2).1).trans h.2⟩
theorem KQ.off{w:World}{b5 b8 g x e:Nat}{new old:ByteArray}{c:Array Value}{f:Nat×Nat}{v:Value}(h:KQ w b5 b8 new old)(d:w.heap[g]?=some (.cells c e f))(b:e≠9):KQ (w.setCell ⟨g,x,none⟩ v) b5 b8 new old :=
 ⟨(ae _ _ _ _ _ (aV h.1 d fun a=>b a.symm)).trans h.1,(ae _ _ _ _ _ (aV h.2 d fun a=>b a.symm)).trans h.2⟩
theorem KQ.cells{w:World}{b5 b8:Nat}{new old:ByteArray}(h:KQ w b5 b8 new old):w.cell? ⟨b5,0,none⟩=some (.string new)/\w.cell? ⟨b8,0,none⟩=some (.string old):=⟨(Lib.cell_of_heap h.1 0).trans rfl,(Lib.cell_of_heap h.2 0).trans rfl⟩
structure RnL(W wx:World)(B q g cd n k ge ce:Nat)(D:Nat->Dm)(d':Dm)(ys:List EnL)(b5 b8:Nat)(new old:ByteArray)(G C:Nat->Nat):Prop where
 dr:DrA wx B q g cd n k ge ce (bN D k d') G C ys
 box:KQ wx b5 b8 new old
 bel:Lw B W wx
 size:W.heap.size<=wx.heap.size
theorem RnL.later{W wx w':World}{B q g cd n k ge ce:Nat}{D:Nat->Dm}{d':Dm}{ys:List EnL}{b5 b8:Nat}{new old:ByteArray}{G C:Nat->Nat}(h:RnL W wx B q g cd n k ge ce D d' ys b5 b8 new old G C)(a:Bl wx w')(b:B<=wx.heap.size):RnL W w' B q g cd n k ge ce D d' ys b5 b8 new old G C :=
 ⟨h.dr.later a,h.box.later a,h.bel.trans (Lw.of b a),zV h.size a.size⟩
theorem iP(D:Nat->Dm)(k:Nat):bN D k (D k)=D:=by
 funext i
 unfold bN
 split
 ·rename_i e;rw[e]
 rfl
theorem B1(B q g cd n k ge ce:Nat)(D:Nat->Dm)(G C:Nat->Nat)(ys:List EnL)(i:Nat)(new:ByteArray)(w0 w:World)(az:w0.heap.size=B)(hE:kz w0)(aj:Below B w0 w)(hB:B<=w.heap.size)(hi:i<(D k).n)(hn:(D k).n<=12)(an:∀j,j<(D k).n->((D k).mem j).formula.size=0\/(((D k).mem j).formula.size<=100/\prsE ((D k).mem j).formula=0))(h:DrA w B q g cd n k ge ce D G C ys):
  Calls prog 53 #[.pointer (some ⟨q,0,none⟩),.int .i64 i,.string new] w (cA w B q g cd n k ge ce D (oX (D k) i new) (kC (D k) i new) (lE ys)):=by
 obtain⟨W,hW⟩:=ar (w.alloc (.cells #[.string new] 9));have F:Bl w W:=by rw[←hW];go_grown
 have bg:W.heap.size=w.heap.size+1:=by rw[←hW];simp
 have k5:W.heap[w.heap.size]?=some (.cells #[.string new] 9 (0,0)):=by rw[←hW];exact heap_alloc_new ..
 have X:=h.later F;have l5:W.cell? ⟨w.heap.size,0,none⟩=some (.string new):=(Lib.cell_of_heap k5 0).trans rfl;have y:∀(E:Int) w',oX (D k) i new=E->E≠0->Bl W w'->cA w B q g cd n k ge ce D (oX (D k) i new) (kC (D k) i new) (lE ys) (.returned (errV E)) w':=fun E w' o hE d=>by
  rw[o];exact cA.bad hE hB (ad F d)
 have J:=l9 new W
 by_cases b:nameErr new=0
 case neg =>
  have aA:oX (D k) i new=nameErr new:=if_pos b;have hF:=aa (fun w'=>y _ w' aA b)
  rw[ac b]at J;have HV:=aa (ac b);generalize nameErr new=E at J hF HV;clear y X h k5 b aA hi hn an hE aj F
  go_enter func53,ntmps53
  go_wp2_with fail;refine J.mono ?_;rintro e w1⟨rfl,I⟩;have hG:=aa (hF.o w1 I);rw[HV.o]at hG;clear I;go_wp2_with fail;go_ret;exact hG.o
 rw[b,errV_zero]at J;have aS:=aa b;have aX:B<=W.heap.size:=ω;obtain⟨old,A⟩:=ar (((D k).mem i).name);obtain⟨gm,Z⟩:=ar (G k);obtain⟨cm,V⟩:=ar (C k);obtain⟨l,Y⟩:=ar ((D k).n);have am:Hid (∀w1,Bl W w1->w1.cell? ⟨w.heap.size,0,none⟩=some (.string new)/\w1.cell? ⟨q,0,none⟩=some (.pointer (some ⟨g,k*3,none⟩))/\w1.cell? ⟨g,k*3+2,none⟩=some (.slice (some ⟨gm,0,none⟩) l cm)/\w1.cell? ⟨gm,i*4,none⟩=some (.string old)):=fun w1 d=>by
  have o:=X.later d;refine⟨aM d (by show w.heap.size<_;omega) l5,o.cells.1,?_,?_⟩
  ·rw[o.dim.2.2.1,Z,Y,V]
  rw[←Z,o.row.cellAt (i*4) ω,←A]
  exact(cF (D k).mem (D k).n i hi).1
 have a8:l<=cm:=by have:=(aG X.row).2.2.1;rw[Y,V]at this;exact this
 have bh:(l:Int)<=(cm:Int):=ω;have bj:(i:Int)<(l:Int):=ω;have bl:(l:Int)<=12:=ω;have af:Hid (∀w2 b5,Bl W w2->b5=w.heap.size->Rt 87 #[.pointer (some ⟨q,0,none⟩),.func (.func 94) #[] #[.pointer (some ⟨b5,0,none⟩)]] w2 (.bool (decide (0<=findFrom (fun j=>same ((D k).mem j).name new) (D k).n 0)))):=fun w2 b5 d e5=>by
  subst e5;exact vE 94 w.heap.size NR B q g cd n k ge ce D G C ys (fun m=>same m.name new) w2 hn (X.later d) fun j w' hj aB=>Mp ((D k).mem j) _ new w' (by have:=d.size;have:=aB.size;omega) (((ad d aB).cell (p:=⟨w.heap.size,0,none⟩) (by show w.heap.size<_;omega)).trans l5)
 have aR:Hid (∀w2 b8,Bl W w2->w2.heap[b8]?=some (.cells #[.string old] 9 (0,0))->RnL W w2 B q g cd n k ge ce D (D k) ys w.heap.size b8 new old G C):=fun w2 b8 d a0=>⟨by rw[iP];exact X.later d,⟨(d.block _ ω).trans k5,a0⟩,Lw.of aX d,d.size⟩
 obtain⟨ab,Q⟩:=ar ((!same new old&&decide (0<=findFrom (fun j=>same ((D k).mem j).name new) (D k).n 0)))
 have ax:Hid (oX (D k) i new=if ab=true then 7 else 0):=by
  show _=_
  unfold oX;rw[if_neg (by simpa using b),A,←Q]
  cases same new old<;>simp
 have PV:=aa Q;have au:new.size<=8:=by
  unfold nameErr at b
  split at b
  ·cases b
  omega
 have aU:Hid (∀w',Rt 48 #[.string new] w' (.string new)):=fun w'=>d5 new w' ω
 have aQ:=aa an;have bd:=aa X;have aP:=aa y;have ai:Hid (∀w',(∀w0,Below B w0 W->Below B w0 w')->kz w'):=fun w' hw=>hE.later (by have h:=hw w0 (aj.trans (F.mono hB));rw[←az]at h;exact h)
 have ag:Hid (∀wx b8,RnL W wx B q g cd n k ge ce D (kC (D k) i new) ys w.heap.size b8 new old G C->ab=false->cA w B q g cd n k ge ce D (oX (D k) i new) (kC (D k) i new) (lE ys) (.returned (errV 0)) wx):=fun wx b8 hr ht=>by
  rw[ax.o,ht,if_neg (by decide)]
  exact⟨rfl,fun _=>⟨G,C,ys,hr.dr,rfl⟩,(Lw.of hB F).trans hr.bel⟩
 have L:=aa Y;have r:=aa Z;have S:=aa V;have aT:=aa A;have ao:i<l:=ω;have bm:q<W.heap.size:=X.lt;have bi:g<W.heap.size:=(aG X.own.dims).2.1;clear y X h k5 b hi hn an hE aj F Q az A Z V Y au
 go_enter func53,ntmps53
 go_wp2_with fail;refine J.mono ?_;rintro e w1⟨rfl,I⟩;obtain⟨p5,pq,pg,pm⟩:=am.o w1 I;obtain⟨w2,av⟩:=ar (w1.alloc (.cells #[.string old] 9));have aD:Bl w1 w2:=by rw[←av];go_grown
 have aq:w2.heap[w1.heap.size]?=some (.cells #[.string old] 9 (0,0)):=by rw[←av];exact heap_alloc_new ..
 have K:=aa (ad I aD);have ah:=aa aq;have l8:w2.cell? ⟨w1.heap.size,0,none⟩=some (.string old):=(Lib.cell_of_heap aq 0).trans rfl;obtain⟨r5,rq,rg,rm⟩:=am.o w2 K.o;clear I aD aq J
 go_upto_region 5 with fail
 clear av p5 pq pg pm;generalize w1.heap.size=b8 at ah l8
 go_cut [36]from 13 (fun bb wx=>bb=.bool ab/\Hid (Bl w2 wx))
 case first =>
  cases hsm:same new old
  ·have hs:(new.toList ==old.toList)=false:=hsm
   have PW:=af.o w2 w.heap.size K.o rfl;have aJ:ab=decide (0<=findFrom (fun j=>same ((D k).mem j).name new) (D k).n 0):=by rw[←PV.o,hsm];simp
   have N:=aa aJ;generalize decide (0<=findFrom (fun j=>same ((D k).mem j).name new) (D k).n 0)=t2 at PW N
   clear hsm aJ;go_wp2_with fail;refine PW.mono ?_;rintro e w3⟨rfl,aE⟩;have aw:=aa aE;clear aE;cases t2
   ·go_wp2_with fail
    go_meet;exact⟨by rw[N.o],aw⟩
   go_wp2_with fail;go_meet;exact⟨by rw[N.o],aw⟩
  have hs:(new.toList ==old.toList)=true:=hsm;have N:Hid (ab=false):=by show _=_;rw[←PV.o,hsm];rfl
  clear hsm;go_wp2_with fail;go_meet;exact⟨by rw[N.o],aa zS⟩
 case rest =>
  obtain⟨wx,rfl⟩:∃wx:World,wx=wc:=⟨_,rfl⟩;obtain⟨rfl,R⟩:=hcut;clear r5 rq rg rm l8;cases ht:ab
  case true =>
   have hF:=aa (aP.o 7 wx (by rw[ax.o,if_pos ht]) (by decide) (ad K.o R.o))
   clear ht;go_wp2_with fail;go_ret;exact hF.o
  have HT:=aa ht;clear ht;have t:=aR.o wx b8 (ad K.o R.o) ((R.o.block _ (zY ah.o).1).trans ah.o);obtain⟨r5,rq,rg,rm⟩:=am.o wx (ad K.o R.o);have a:=t.dr.row;rw[iP,r.o,S.o,L.o]at a;obtain⟨-,P,-,-,aW,c⟩:=aG a;obtain⟨-,a7,-,-,be,PX⟩:=aG t.dr.own.dims;have rf:=a.frozenAt (i*4);have HS:Hid (∀w',wx.grownBy w' (some gm)->w'.cell? ⟨w.heap.size,0,none⟩=some (.string new)/\w'.cell? ⟨q,0,none⟩=some (.pointer (some ⟨g,k*3,none⟩))/\w'.cell? ⟨g,k*3+2,none⟩=some (.slice (some ⟨gm,0,none⟩) l cm)):=fun w' hg=>⟨hg.cell r5 (fun e=>aV t.box.1 c (by decide) (Option.some.inj e)),hg.cell rq (fun e=>aV t.dr.box c (by decide) (Option.some.inj e)),hg.cell rg (fun e=>aV PX c (by decide) (Option.some.inj e))⟩
  have ay:Hid (∀w',Bl wx w'->w'.cell? ⟨gm,i*4,none⟩=some (.string old)/\w'.frozen? ⟨gm,i*4,none⟩=false):=fun w' d=>⟨aM d P rm,(d.frozen (p:=⟨gm,i*4,none⟩) P).trans rf⟩
  have al:B<=wx.heap.size:=by have:=t.size;omega
  have PU:Hid (∀w',Bl wx w'->RnL W (w'.setCell ⟨gm,i*4,none⟩ (.string new)) B q g cd n k ge ce D ⟨(D k).name,(D k).solve,l,eo (D k).mem i new 0⟩ ys w.heap.size b8 new old G C):=fun w' d=>by
   have o:=t.later d al;obtain⟨s1,s2⟩:=o.dr.setM (x:=i*4) (v:=.string new) (M':=eo (D k).mem i new 0) (by
    rw[iP,←FZ];exact fK (f:=0) (m:=⟨new,((D k).mem i).parent,((D k).mem i).sign,((D k).mem i).formula⟩) (by rw[L.o];exact ao) ω rfl fun f hf b=>by
     have:f=1\/f=2\/f=3:=ω;rcases this with rfl|rfl|rfl<;>rfl)
   rw[iP,r.o,L.o]at s1;rw[r.o]at s2;exact⟨s1,o.box.off ((d.block _ P).trans c) (by decide),o.bel.trans s2,by have:=o.size;simpa using this⟩
  clear t a c PX rm rf
  go_upto_region 7 with fail
  go_region_held3 (fun w'=>wx.grownBy w' (some gm)/\w'.cell? ⟨w.heap.size,0,none⟩=some (.string new)/\w'.cell? ⟨q,0,none⟩=some (.pointer (some ⟨g,k*3,none⟩))/\w'.cell? ⟨g,k*3+2,none⟩=some (.slice (some ⟨gm,0,none⟩) l cm))
   ((refine(fun hG=>⟨hG,HS.o _ hG⟩) ?_;(repeat (first|exact bP _ _|assumption|refine cX ?_|refine eI ?_ _ _));done))
   (first|(go_at_call 48;refine(aU.o _).mono ?_;rintro e w4⟨rfl,O⟩;have U:=ad (W0:=wx) γ O;have aY:wx.grownBy w4 (some gm):=aC U;obtain⟨z0,f0⟩:=ay.o w4 U;have aO:=aa U;clear O U))
  have HR:=aa (PU.o w4 aO.o);obtain⟨wy,aK⟩:=ar (w4.setCell ⟨gm,i*4,none⟩ (.string new));rw[aK]at HR;obtain⟨y1,-,-,-⟩:=HR.o.dr.cells;have y2:=HR.o.dr.dim.2.2.1;rw[putD_at,r.o,S.o]at y2;simp only at y2;clear z0 f0 aY r5 rq rg HS ay PU;go_wp2_with fail;clear aK y1 y2
  go_loopg [58] l (fun gg bc wr =>∃j:Nat,j<=l/\gg=l-j/\bc=.int .i64 j/\Hid (RnL W wr B q g cd n k ge ce D ⟨(D k).name,(D k).solve,l,eo (D k).mem i new j⟩ ys w.heap.size b8 new old G C))
  case atStart=>exact⟨0,zU,rfl,rfl,HR⟩
  case round =>
   obtain⟨j,hj,rfl,rfl,HJ⟩:=hrel
   by_cases ap:j<l
   ·have bk:(j:Int)<(l:Int):=ω;have aF:=HJ.o.dr;have a:=aF.row;rw[putD_at,r.o,S.o]at a;simp only at a;obtain⟨x0,x1,x2,x3⟩:=cF (eo (D k).mem i new j) l j ap;have e0:=(a.cellAt (j*4) ω).trans x0
    have e1:=(a.cellAt (j*4+1) ω).trans x1
    have e2:=(a.cellAt (j*4+2) ω).trans x2
    have e3:=(a.cellAt (j*4+3) ω).trans x3
    have PY:=JT (D k).mem i new j;have aH:(eo (D k).mem i new j j).formula=((D k).mem j).formula:=if_neg (Nat.lt_irrefl _);obtain⟨-,ae,-,-,aW,c⟩:=aG a;obtain⟨z,hz⟩:=ar (wr.alloc (.cells #[.string (eo (D k).mem i new j j).name,.int .i64 (eo (D k).mem i new j j).parent,.int .i64 (eo (D k).mem i new j j).sign,.string (eo (D k).mem i new j j).formula] 64));have T:Bl wr z:=by rw[←hz];go_grown
    have aL:z.heap[wr.heap.size]?=some (.cells #[.string (eo (D k).mem i new j j).name,.int .i64 (eo (D k).mem i new j j).parent,.int .i64 (eo (D k).mem i new j j).sign,.string (eo (D k).mem i new j j).formula] 64 (0,0)):=by rw[←hz];exact heap_alloc_new ..
    have aZ:B<=wr.heap.size:=by have:=HJ.o.size;omega
    have H:=HJ.o.later T aZ;have ba:B<=z.heap.size:=by have:=H.size;omega
    have z3:z.cell? ⟨wr.heap.size,3,none⟩=some (.string (eo (D k).mem i new j j).formula):=(Lib.cell_of_heap aL 3).trans rfl;rw[aH]at z3 hz e3;have s:=FQ ((D k).mem j).formula new old w.heap.size b8 z H.box.cells.1 H.box.cells.2 (aQ.o j (by rw[L.o];exact ap)) aS.o (ai.o z H.bel.1)
    rw[errV_zero]at s;have PT:Hid (∀w',Bl z w'->w'.cell? ⟨q,0,none⟩=some (.pointer (some ⟨g,k*3,none⟩))/\w'.cell? ⟨g,k*3+2,none⟩=some (.slice (some ⟨gm,0,none⟩) l cm)/\(∃u,w'.cell? ⟨gm,j*4+3,none⟩=some u)/\w'.frozen? ⟨gm,j*4+3,none⟩=false/\RnL W (w'.setCell ⟨gm,j*4+3,none⟩ (.string (refT old new ((D k).mem j).formula))) B q g cd n k ge ce D ⟨(D k).name,(D k).solve,l,eo (D k).mem i new (j+1)⟩ ys w.heap.size b8 new old G C):=fun w' d=>by
     have o:=H.later d ba;have aI:=ak a (ad T d);have d2:=o.dr.dim.2.2.1;rw[putD_at,r.o,S.o]at d2;have PZ:=fK (M:=eo (D k).mem i new j) (n:=l) (i:=j) (f:=3) (v:=.string (refT old new ((D k).mem j).formula)) (m:=⟨(eo (D k).mem i new j j).name,(eo (D k).mem i new j j).parent,(eo (D k).mem i new j j).sign,refT ((D k).mem i).name new ((D k).mem j).formula⟩) ap ω (by rw[aT.o];rfl) fun f hf b=>by
      have:f=0\/f=1\/f=2:=ω;rcases this with rfl|rfl|rfl<;>rfl
     rw[PY]at PZ;obtain⟨s1,s2⟩:=o.dr.setM (x:=j*4+3) (v:=.string (refT old new ((D k).mem j).formula)) (M':=eo (D k).mem i new (j+1)) (by rw[putD_at];exact PZ)
     rw[putD_at,putD_twice,r.o]at s1;rw[r.o]at s2;have a6:=((ad T d).block _ ae).trans c;exact⟨o.dr.cells.1,d2,⟨_,(aI.cellAt (j*4+3) ω).trans x3⟩,aI.frozenAt _,s1,o.box.off a6 (by decide),o.bel.trans s2,by have:=o.size;simpa using this⟩
    have bf:(j:Int)<=12:=ω;generalize refT old new ((D k).mem j).formula=rt at s PT;generalize ((D k).mem j).formula=t4 at e3 hz z3 s;generalize (eo (D k).mem i new j j).name=t1 at e0 hz;generalize (eo (D k).mem i new j j).parent=t2 at e1 hz;generalize (eo (D k).mem i new j j).sign=t3 at e2 hz;clear T aL x0 x1 x2 x3 H a aF c PY aH;go_wp2_with fail;refine s.mono ?_;rintro e w4⟨rfl,O⟩;obtain⟨a1,a2,⟨u,a3⟩,a4,a5⟩:=PT.o w4 O;have aN:=aa a5;clear O s e0 e1 e2 e3 z3 hz a5;go_wp2_with fail
    go_roundg (l-(j+1))
    case measure=>omega
    case rel=>exact⟨j+1,ω,rfl,by go_num,aN⟩
   have a9:j=l:=ω;subst a9;have hG:=aa (ag.o wr b8 ⟨by
    have o:=HJ.o.dr.cgM (M':=(kC (D k) i new).mem) fun x hx=>by
     unfold eo kC;simp only[if_pos hx]
    rw[show kC (D k) i new=⟨(D k).name,(D k).solve,j,(kC (D k) i new).mem⟩ by unfold kC;rw[L.o]]
    exact o,HJ.o.box,HJ.o.bel,HJ.o.size⟩ HT.o)
   go_wp2_with fail;go_ret;exact hG.o
end Go.Proofs.YtjfampgnhccodaaGreatDoor
