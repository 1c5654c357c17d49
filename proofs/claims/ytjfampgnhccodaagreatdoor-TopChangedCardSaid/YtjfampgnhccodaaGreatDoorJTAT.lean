/-
  Lists of nodes and of names in blocks of their own types: what Parse and Refs of package formula answer lies so.
-/
import Derived.Test.YtjfampgnhccodaaGreatDoorJTAM
import Derived.Test.YtjfampgnhccodaaGreatDoorJTAN
namespace Go.Proofs.YtjfampgnhccodaaGreatDoor
open Tryz Go.ChangeShapes Go.WideShapes Go.ChangeAt Go.RowKit
open Go.Sort (putRow Holds grow holds_putRow)
set_option maxRecDepth 20000
def jE(w:World)(A:Option Addr)(c:Nat)(L:List Nd):Prop:=kx w A c L/\(L=[]\/∃b o cs fr,A=some ⟨b,o,none⟩/\w.heap[b]?=some (.cells cs 223 fr))
theorem jE.nil(w:World)(A:Option Addr)(c:Nat)(h:c<=9223372036854775807):jE w A c []:=⟨kx.nil w A c h,Or.inl rfl⟩
theorem jE.keep{w w':World}{A:Option Addr}{c:Nat}{L:List Nd}(h:jE w A c L)(j:∀(b:Nat) (cs:Array Value) (fr:Nat×Nat),w.heap[b]?=some (Obj.cells cs 223 fr)->w'.heap[b]?=w.heap[b]?):jE w' A c L:=by
 obtain⟨⟨g,i,f⟩,e⟩:=h
 rcases e with e|⟨b,o,cs,fr,hA,hb⟩
 ·exact⟨⟨g,i,Or.inl e⟩,Or.inl e⟩
 have d:=j b cs fr hb;refine⟨⟨g,i,?_⟩,Or.inr ⟨b,o,cs,fr,hA,d.trans hb⟩⟩
 rcases f with f|⟨b',o',aa,h5,h6⟩
 ·exact Or.inl f
 rw[hA]at aa;cases aa;refine Or.inr ⟨b,o,hA,(zY (d.trans hb)).1,fun k l=>?_⟩
 obtain⟨m,n,p,q,r⟩:=h6 k l;exact⟨(World.cell?_of_block (a:=⟨b,_,none⟩) d).trans m,(World.cell?_of_block (a:=⟨b,_,none⟩) d).trans n,(World.cell?_of_block (a:=⟨b,_,none⟩) d).trans p,(World.cell?_of_block (a:=⟨b,_,none⟩) d).trans q,(World.cell?_of_block (a:=⟨b,_,none⟩) d).trans r⟩
theorem jE.later{w w':World}{A:Option Addr}{c:Nat}{L:List Nd}(h:jE w A c L)(a:Bl w w'):jE w' A c L :=
 h.keep fun b _ _ d=>a.block b (zY d).1
theorem LS{w:World}{N:Nat}{A:Option Addr}{c:Nat}{l:List Nd}(h:w.ownsRow N 223 5 (.slice A l.length c) l.length (bV l)):jE w A c l:=by
 refine⟨Bm h,?_⟩
 rcases h.2 with⟨a,d⟩|⟨g,cap,b,a,f,e,-⟩
 ·exact Or.inl (List.eq_nil_of_length_eq_zero d)
 cases a;exact Or.inr ⟨g,0,_,_,rfl,e⟩
def ky(w:World)(A:Option Addr)(c:Nat)(L:List (List UInt8)):Prop:=gO w A c L/\(L=[]\/∃b o cs fr,A=some ⟨b,o,none⟩/\w.heap[b]?=some (.cells cs 9 fr))
theorem ky.nil(w:World)(A:Option Addr)(c:Nat)(h:c<=9223372036854775807):ky w A c []:=⟨gO.nil w A c h,Or.inl rfl⟩
theorem ky.keep{w w':World}{A:Option Addr}{c:Nat}{L:List (List UInt8)}(h:ky w A c L)(j:∀(b:Nat) (cs:Array Value) (fr:Nat×Nat),w.heap[b]?=some (Obj.cells cs 9 fr)->w'.heap[b]?=w.heap[b]?):ky w' A c L:=by
 obtain⟨⟨g,i,e⟩,d⟩:=h
 rcases d with d|⟨b,o,cs,fr,hA,hb⟩
 ·exact⟨⟨g,i,Or.inl d⟩,Or.inl d⟩
 have f:=j b cs fr hb;refine⟨⟨g,i,?_⟩,Or.inr ⟨b,o,cs,fr,hA,f.trans hb⟩⟩
 rcases e with e|⟨b',o',aa,h5,h6⟩
 ·exact Or.inl e
 rw[hA]at aa;cases aa;exact Or.inr ⟨b,o,hA,(zY (f.trans hb)).1,fun k l=>(World.cell?_of_block (a:=⟨b,_,none⟩) f).trans (h6 k l)⟩
theorem ky.later{w w':World}{A:Option Addr}{c:Nat}{L:List (List UInt8)}(h:ky w A c L)(a:Bl w w'):ky w' A c L :=
 h.keep fun b _ _ d=>a.block b (zY d).1
theorem JC{w:World}{g n:Nat}{d:Array (List UInt8)}{cs:Array Value}{T:Nat}{fr:Nat×Nat}(h:w.heap[g]?=some (.cells cs T fr)):∃cs' fr',(putRow encStr (Sort.ahead w n) g 0 d).heap[g]?=some (.cells cs' T fr'):=by
 unfold putRow Sort.mapBlock;have a:(Sort.ahead w n).heap[g]?=some (.cells cs T fr):=h;simp only[Array.getElem?_modify,if_true,a,Option.map_some];exact⟨_,_,rfl⟩
theorem Ir{w:World}{g T:Nat}{os:Array Obj}(h:∃cs fr,w.heap[g]?=some (.cells cs T fr)):∃cs fr,(grow w os).heap[g]?=some (.cells cs T fr):=by
 obtain⟨cs,fr,h⟩:=h;exact⟨cs,fr,by rw[Sort.heap_grow_old _ _ (zY h).1];exact h⟩
theorem GX(N p:Nat)(b:Bld)(w:World)(q:N<=w.heap.size)(l:b.nodes.length+opsN b.waiting<=200)(m:b.ready.length<=200)(n:opsN b.waiting+1<=b.ready.length)(o:b.waiting.length<=200)(d:dh N p b w):
  Calls prog 196 #[.pointer (some ⟨p,0,none⟩)] w fun e w'=>(∃A c,e=.returned (.slice A (settleB 0 b).nodes.length c)/\jE w' A c (settleB 0 b).nodes)/\Kept N (fun k=>k=p) w w':=by
 have h:=js N p b 0 w q l m n o d;generalize settleB 0 b=b1 at *;clear d
 go_enter func196,ntmps196
 go_wp2_with fail;refine h.mono ?_;rintro e w1⟨rfl,⟨AN,j,AR,r,AW,s,a⟩,f⟩;have c0:=a.c0;have i:Hid (jE w1 AN j b1.nodes):=LS a.nod;have g:=aa f;clear a f h;go_wp2_with fail;go_ret;exact⟨⟨_,_,rfl,i.o⟩,g.o⟩
theorem qj(s:ByteArray)(w:World)(y:s.size<=100):Calls prog 143 #[.string s] w fun e w'=>(∃A c,e=.returned (.tuple #[.slice A (bK s).length c,.int .i64 (mo s:Int),errV (prsE s)])/\jE w' A c (bK s))/\Bl w w':=by
 have ae:∀(fn:Fn) (first cap:Array Value) (w:World),(Instr.makeFunc fn first cap).run prog w=.ok (.func fn first cap) w:=fun _ _ _ _=>rfl
 have S:(s.size:Int)<=100:=ω;have D:Hid ((eZ s).1.at'<=s.size):=GP _ zU;have i:=te (tkB (w.heap.size+4) w.heap.size) (Ko _ _) s noB (ld w) (by show s.size<=100;exact y) (by rw[gu];rfl) (by rw[gu];exact Nat.lt_succ_self _) (Dt w) Dd (eZ s) rfl
 have E:Hid (Bl w (ld w)):=qI w;obtain⟨W,hW⟩:=ar (ld w);have HZ:Hid ((ld w).heap.size=w.heap.size+1):=gu w;rw[hW]at i E HZ;unfold ld at hW;have U:(tkB (w.heap.size+4) w.heap.size).fv=.func (.func 193) #[.pointer (some ⟨w.heap.size,0,none⟩)] #[]:=rfl;rw[U]at i;have HI:Hid (∀st w',(tkB (w.heap.size+4) w.heap.size).I st w'->dh (w.heap.size+4) w.heap.size st w'):=fun _ _ h=>h
 have HG:Hid (∀a o ph st,(tkB (w.heap.size+4) w.heap.size).G a o ph st->FitB a o ph st):=fun _ _ _ _ h=>h
 have O:Hid ((tkB (w.heap.size+4) w.heap.size).p=w.heap.size/\(tkB (w.heap.size+4) w.heap.size).N=w.heap.size+4):=⟨rfl,rfl⟩;generalize tkB (w.heap.size+4) w.heap.size=T at *;cases hx:(eZ s).2
 ·have q:prsE s=2:=by unfold prsE;rw[if_neg ω,if_neg (by rw[hx];decide)]
  have z:mo s=(eZ s).1.at':=by unfold mo;rw[if_neg ω,if_neg (by rw[hx];decide)]
  have Z:bK s=[]:=by unfold bK;rw[if_neg (by rw[q];decide)]
  rw[q,z,Z,ac (by decide)]
  have P:=aa hx;clear q z Z hx
  go_enter func143,ntmps143
  go_wp2_with fail;refine i.mono ?_;rintro e w1⟨⟨B,-⟩,⟨R,-⟩|⟨-,rfl⟩⟩
  ·exact absurd (P.o.symm.trans R) (by decide)
  have b:Hid (Bl w w1):=fI E.o B (by rw[O.o.1];exact zT)
  rw[ac (by decide)]
  clear B i;go_wp2_with fail;go_returns;exact⟨⟨none,0,rfl,jE.nil _ _ _ ω⟩,b.o⟩
 have q:prsE s=ax (fU s):=by unfold prsE;rw[if_neg ω,if_pos hx]
 have z:mo s=0:=by unfold mo;rw[if_neg ω,if_pos hx]
 have P:=aa hx;have F:=aa q;have n:Hid (bK s=if prsE s=0 then fU s else[]):=rfl
 have M:Hid (fU s=(settleB 0 (eZ s).1.st).nodes):=rfl;rw[q,z];clear q z hx
 go_enter func143,ntmps143
 go_wp2_with fail;refine i.mono ?_;rintro e w1⟨⟨B,C⟩,⟨-,rfl,Y,X⟩|⟨R,-⟩⟩
 case inr=>exact absurd (P.o.symm.trans R) (by decide)
 have b:Hid (Bl w w1):=fI E.o B (by rw[O.o.1];exact zT)
 obtain⟨f1,Q,f3,f4,f5⟩:=HG.o _ _ _ _ X;simp only[if_true]at Q;rw[O.o.2]at C;have ab:(eZ s).1.at'<=200:=by have:=D.o;omega
 have j:=GX (w.heap.size+4) w.heap.size (eZ s).1.st w1 C ω ω Q ω (HI.o _ _ Y)
 clear B i Y X f1 Q f3 f4 f5;rw[←M.o]at j;obtain⟨L,r⟩:=ar (fU s);have x:=aa r;rw[r]at j F n;clear r;go_wp2_with fail;refine j.mono ?_;rintro e w2⟨⟨A,c,rfl,t⟩,g⟩;have u:Hid (Bl w w2):=⟨g.os.trans b.o.os,g.tape.trans b.o.tape,g.output.trans b.o.output,zV b.o.size g.size,fun k V=>by rw[g.block k ω ω];exact b.o.block k V⟩
 have J:=aa t;have f:=jO A c L w2 t.1;clear g t j
 by_cases l:ax L=0
 ·have v:Hid (bK s=L):=by show _=_;rw[n.o,F.o,if_pos l]
  rw[l,errV_zero]at f;have H:=aa l;clear l;go_wp2_with fail;refine f.mono ?_;rintro e w3⟨rfl,d⟩;have m:=aa (ad u.o d);have K:=aa (J.o.later d);clear d f;go_wp2_with fail;go_returns;exact⟨⟨A,c,by rw[v.o,x.o,H.o];rfl,by rw[v.o];exact K.o⟩,m.o⟩
 have v:Hid (bK s=[]):=by show _=_;rw[n.o,F.o,if_neg l]
 rw[ac l]at f;have H:Hid (errV (ax L)=.iface 71 (.int .i64 (ax L))):=ac l;clear l;go_wp2_with fail;refine f.mono ?_;rintro e w3⟨rfl,d⟩;have m:=aa (ad u.o d);clear d f;go_wp2_with fail;go_returns;exact⟨⟨none,0,by rw[v.o,x.o,H.o];rfl,by rw[v.o];exact jE.nil _ _ _ ω⟩,m.o⟩
theorem tf(A:Option Addr)(cap:Nat)(l:List Nd)(w:World)(T:kx w A cap l):Calls prog 201 #[.slice A l.length cap] w fun e w'=>(∃A' c',e=.returned (.tuple #[.slice A' (aP l).length c',errV (ax l)])/\ky w' A' c' (aP l))/\Bl w w':=by
 have f:=jO A cap l w T;obtain⟨i0,al,au,av,aw⟩:=info_parts infoStrF
 by_cases G:ax l=0
 case neg =>
  have U:aP l=[]:=by unfold aP;rw[if_neg G]
  rw[U];rw[ac G]at f|-;clear G U
  go_enter func201,ntmps201
  go_wp2_with fail;refine f.mono ?_;rintro e w1⟨rfl,B⟩;go_wp2_with fail;go_returns;exact⟨⟨none,0,rfl,ky.nil _ _ _ ω⟩,B⟩
 obtain⟨Y,an,hg,-⟩:=dH G;have U:aP l=Lib.compact ((dD l l.length).mergeSort fun x y=>decide (x<=y)):=by unfold aP;rw[if_pos G]
 rw[G,errV_zero]at f|-;obtain⟨-,-,h1|⟨b,o,rfl,T⟩⟩:=T
 ·rw[h1]at Y;simp at Y
 have HG:=aa hg;have HN:=aa T;have HP:=aa U;obtain⟨n,hn⟩:=ar l.length;have HL:=aa hn;rw[hn]at f|-;have aF:(n:Int)<=30:=ω;clear G U hg T
 go_enter func201,ntmps201
 go_wp2_with fail;refine f.mono ?_;rintro e w1⟨rfl,B⟩;have ab:=aa B;clear B f;go_wp2_with fail
 go_loopg [5,15] n (fun g s5 ay wr =>∃(k:Nat) (v:Value),k<=n/\g=n-k/\ay=.int .i64 k/\v=s5/\wr.ownsRow w.heap.size 9 1 v (dD l k).length ((dD l k).map encStr)/\Bl w wr)
 case atStart=>exact⟨0,_,zU,rfl,rfl,rfl,World.ownsRow_nil _ _ _ _,ab.o⟩
 case round =>
  obtain⟨k,v,hk,rfl,rfl,rfl,hO,S⟩:=hrel;have p:=aa hO;have F:=aa S;have ao:=Du l k;clear hO S
  by_cases aD:k<n
  ·have aC:(k:Int)<(n:Int):=ω;obtain⟨x0,x1,x2,x3,x4⟩:=(HN.o.later F.o).nd (k:=k) ω
   have aB:b<w.heap.size:=HN.o.1;have aH:=F.o.size;have d:=HG.o k ω
   obtain⟨x,hx⟩:=ar (l.getD k bT);have HX:=aa hx;rw[hx]at x0 x1 x2 x3 x4 d;clear hx;obtain⟨m,hm⟩:=ar ((dD l k).length)
   by_cases Q:x.op=2
   ·have HT:Hid (dD l (k+1)=dD l k++[x.name.data.toList]):=LU ω HX.o Q
    have C:nameErr x.name=0:=by
     unfold ndErr at d;rw[if_neg ω,if_neg ω,if_pos Q]at d
     split at d
     ·cases d
     rename_i h;simpa using h
    have aG:x.name.size<=8:=by
     unfold nameErr at C
     split at C
     ·cases C
     omega
    have V:=fun w=>d5 x.name w ω
    rw[Q]at x0;rw[hm]at p;clear d C;go_wp2_with fail;refine(V _).mono ?_;rintro e w2⟨rfl,J⟩;have t:Hid (Bl w w2):=ad F.o (ad γ J)
    have I:=ak p.o (ad γ J)
    have aq:=t.o.size;clear J V
    go_wp2_with (at_builtin;refine wpList_append_own _ rfl _ _ 147 rfl w.heap.size 9 i0 (.string ⟨#[]⟩) 1 16 underlying147 al au av aw rfl (by decide) _ _ _ rfl (I.alloc _) ⟨w2.heap.size,0,none⟩ 1 1 [.string x.name] rfl rfl da (by intro u hu;simp at hu;subst hu;rfl) (by unfold maxLen;omega) ω (by simp;omega) ?_)
    intro v' w3 s r _;have D:Hid (Bl w w3):=dk t.o I r;have ae:Hid (w3.ownsRow w.heap.size 9 1 v' (dD l (k+1)).length ((dD l (k+1)).map encStr)):=by
     show World.ownsRow ..
     rw[HT.o,List.length_append,List.map_append,hm];exact s
    clear s r I;go_wp2_with fail
    go_roundg (n-(k+1))
    case measure=>omega
    case rel=>exact⟨k+1,_,ω,rfl,by go_num,rfl,ae.o,D.o⟩
   have HT:Hid (dD l (k+1)=dD l k):=I3 ω HX.o Q
   have e2:(x.op == 2)=false:=by simpa using Q
   clear d Q;go_wp2_with fail
   go_roundg (n-(k+1))
   case measure=>omega
   case rel=>exact⟨k+1,_,ω,rfl,by go_num,rfl,by rw[HT.o];exact ak p.o γ,ad F.o γ⟩
  have am:k=n:=ω;subst am;obtain⟨zs,P⟩:=ar (dD l k);have HZ:Hid (aP l=Lib.compact (zs.mergeSort fun x y=>decide (x<=y))):=by show _=_;rw[HP.o,HL.o,P]
  rw[P]at p ao;clear P
  by_cases hz:zs=[]
  ·subst hz
   have hv:v=.slice none 0 0\/∃g c,v=.slice (some ⟨g,0,none⟩) 0 c/\c<=maxLen:=by
    rcases p.o.2 with⟨h,_⟩|⟨g,c,R,h,_,_,_,hm,_⟩
    ·exact Or.inl h
    exact Or.inr ⟨g,c,h,hm⟩
   have z:Hid (aP l=[]):=by show _=_;rw[HZ.o,List.mergeSort_nil];rfl
   rcases hv with rfl|⟨g,c,rfl,K⟩
   ·have i:=Any.slices_Sort_string_none lays190 none 0 wr
    have a:=Any.slices_Compact_string_empty lays194 none 0 wr;clear p;go_wp2_with fail;refine Calls.mono i ?_;rintro e w2⟨rfl,rfl⟩;go_wp2_with fail;refine Calls.mono a ?_;rintro e w3⟨rfl,rfl⟩;go_wp2_with fail;go_returns;exact⟨⟨none,0,by rw[z.o];rfl,by rw[z.o];exact ky.nil _ _ _ ω⟩,F.o⟩
   have i:=Any.slices_Sort_string_none lays190 (some ⟨g,0,none⟩) c wr;have a:=Any.slices_Compact_string_empty lays194 (some ⟨g,0,none⟩) c wr;clear p;go_wp2_with fail;refine Calls.mono i ?_;rintro e w2⟨rfl,rfl⟩;go_wp2_with fail;refine Calls.mono a ?_;rintro e w3⟨rfl,rfl⟩;go_wp2_with fail;go_returns;exact⟨⟨some ⟨g,0,none⟩,c,by rw[z.o];rfl,by rw[z.o];exact ky.nil _ _ _ (by unfold maxLen at K;omega)⟩,F.o⟩
  have ap:0<zs.length:=List.length_pos_iff.2 hz;obtain⟨g,c,rfl,W,X,aE,K,-,hH⟩:=Lib.holds_of_ownsRow p.o (by intro e;have:=p.o.2;rcases this with⟨_,h⟩|⟨g,c,R,h,_⟩;omega;rw[e]at h;cases h)
  have ah:Hid (∃cs fr,wr.heap[g]?=some (.cells cs 9 fr)):=by
   rcases p.o.2 with⟨h,-⟩|⟨g',c',R,h,-,ai,-⟩
   ·cases h
   cases h;exact⟨_,_,ai⟩
  have i:=Any.slices_Sort_string lays190 g 0 c zs wr hH X ω
  clear p;go_wp2_with fail;refine Calls.mono i ?_;rintro e w2⟨rfl,q,os,j⟩;obtain⟨ys,O⟩:=ar ((zs.mergeSort fun x y=>decide (x<=y)))
  have N:ys.length=zs.length:=by rw[←O];exact List.length_mergeSort zs
  rw[O]at HZ j;have t:Hid (Bl w w2):=by rw[j];exact vj F.o W
  have aj:g<w2.heap.size:=by rw[j];simp;omega
  have H:Holds encStr w2 g 0 ys.toArray:=by
   rw[j];exact Sort.holds_grow encStr _ _ _ _ _ (by simpa using X) (holds_putRow encStr (Sort.ahead wr q) g 0 zs.toArray _ hH (by simp[N]))
  have a:=Any.slices_Compact_string lays194 g 0 c ys w2 H ω ω
  rw[N]at a;have ag:Hid (∃cs fr,w2.heap[g]?=some (.cells cs 9 fr)):=by
   obtain⟨cs,fr,L⟩:=ah.o;rw[j];exact Ir (JC (n:=q) L)
  have E:Hid (∀q2,gO (putRow encStr (Sort.ahead w2 q2) g 0 (Lib.compact ys++List.replicate (ys.length-(Lib.compact ys).length) []).toArray) (some ⟨g,0,none⟩) c (Lib.compact ys)):=fun q2=>xZ H ω K aj
  rw[N]at E;clear j O i hH H;go_wp2_with fail;refine Calls.mono a ?_;rintro e w3⟨rfl,q2,M⟩;have D:Hid (Bl w w3):=by rw[M];exact uW t.o W
  have af:Hid (ky w3 (some ⟨g,0,none⟩) c (Lib.compact ys)):=by
   rw[M];obtain⟨cs,fr,L⟩:=ag.o;obtain⟨az,aA,Z⟩:=JC (n:=q2) L;exact⟨E.o q2,Or.inr ⟨g,0,_,_,rfl,Z⟩⟩
  clear M a E;go_wp2_with fail;go_returns;exact⟨⟨some ⟨g,0,none⟩,c,by rw[HZ.o];rfl,by rw[HZ.o];exact af.o⟩,D.o⟩
theorem Im(s:ByteArray)(w:World)(a:s.size<=100):Calls prog 143 #[.string s] w fun e w'=>(∃A c,e=.returned (.tuple #[.slice A (bK s).length c,.int .i64 (mo s:Int),errV (prsE s)])/\kx w' A c (bK s))/\Bl w w' :=
 (qj s w a).mono fun _ _ ⟨⟨A,c,b,d⟩,f⟩=>⟨⟨A,c,b,d.1⟩,f⟩
theorem Lu(A:Option Addr)(cap:Nat)(l:List Nd)(w:World)(f:kx w A cap l):Calls prog 201 #[.slice A l.length cap] w fun e w'=>(∃A' a,e=.returned (.tuple #[.slice A' (aP l).length a,errV (ax l)])/\gO w' A' a (aP l))/\Bl w w' :=
 (tf A cap l w f).mono fun _ _ ⟨⟨A',a,b,c⟩,d⟩=>⟨⟨A',a,b,c.1⟩,d⟩
end Go.Proofs.YtjfampgnhccodaaGreatDoor
namespace Go.Proofs.YtjfampgnhccodaaGreatDoor
open Tryz Go Go.ChangeShapes Go.WideShapes Go.ChangeAt Go.RowKit
set_option maxRecDepth 20000
theorem jf{w w1 w2:World}{r:Option Nat}(h:w.grownBy w1 r)(k:w1.grownBy w2 r):w.grownBy w2 r :=
 ⟨k.os.trans h.os,k.tape.trans h.tape,k.output.trans h.output,zV h.size k.size,fun i a b=>(k.block i (zW a h.size) b).trans (h.block i a b)⟩
theorem dJ{w w':World}{r:Option Nat}(h:Bl w w'):w.grownBy w' r:=⟨h.os,h.tape,h.output,h.size,fun i a _=>h.block i a⟩
theorem sj(w:World)(g:Nat)(cs:Array Value):w.grownBy (w.setRow g cs) (some g):=
 ⟨rfl,rfl,rfl,by rw[setRow_size];exact zT,fun i _ a=>setRow_other w g i cs fun e=>a (by rw[e])⟩
theorem kR(g:Nat)(t:TypeId):∀(vs:List Value) (o:Nat) (a:Array Value) (w:World),w.heap[g]?=some (.cells a t (0,0))->o+vs.length<=a.size->w.setCells g o vs=w.setRow g (a.toList.take o++vs++a.toList.drop (o+vs.length)).toArray
 | [],o,a,w,hg,_=>by
  simp only[World.setCells,List.append_nil,List.length_nil,Nat.add_zero,List.take_append_drop,Array.toArray_toList];rw[setRow_self w g a t (0,0) hg]
 |v :: r,o,a,w,hg,hl=>by
  simp only[List.length_cons]at hl;rw[World.setCells,setCell_eq_setRow w g o a t (0,0) v hg,kR g t r (o+1) (a.setIfInBounds o v) _ (setRow_heap w g a _ t _ hg) (by simp;omega),setRow_setRow]
  have e:=list_seg_step a.toList o v r (by simp;omega)
  congr 2
  simpa [Array.toList_setIfInBounds,Nat.add_assoc]using e
theorem AJ(F:Nat)(cap:Array Value)(p:Int->Bool)(a:∀(args:Array Value) (w:World),(callFunc F args).run prog w=.ok (.enter F args) w)(A:Option Addr)(c:Nat)(L:List Int)(w:World)(f:L.length<=3000)(d:dG w A c L)
  (b:∀(x:Int) (w':World),x∈L->Bl w w'->Calls prog F (#[.int .i64 x]++cap) w' fun e aa=>e=.returned (.bool (p x))/\Bl w' aa):
  Rt 164 #[.slice A L.length c,.func (.func F) #[] cap] w (.int .i64 (findFrom (fun j=>p (L.getD j 0)) L.length 0)):=
 tm F cap p a A c L w ω (mn d) b
def tZ(L:List Int)(p:Int->Bool)(i j:Nat)(cur:Array Value):Prop:=i<j/\((L.take j).filter fun x => !p x).length=i/\(∀m,m<i->cur[m]?=some (.int .i64 (((L.take j).filter fun x => !p x).getD m 0)))/\∀m,j<=m->m<L.length->cur[m]?=some (.int .i64 (L.getD m 0))
theorem rM{L:List Int}{j:Nat}(h:j<L.length):L.take (j+1)=L.take j++[L.getD j 0]:=by
 rw[List.take_succ_eq_append_getElem h,zZ,zX h]
 rfl
theorem zx{L:List Int}{p:Int->Bool}{k:Nat}{a:Array Value}(l:k<L.length)(d:p (L.getD k 0)=true)(o:∀j,j<k->p (L.getD j 0)=false)(c:∀m,m<L.length->a[m]?=some (.int .i64 (L.getD m 0))):tZ L p k (k+1) a:=by
 have g:(L.take k).filter (fun x => !p x)=L.take k:=by
  rw[List.filter_eq_self];intro x q;obtain⟨j,i,rfl⟩:=List.getElem_of_mem q;have b:j<k:=by rw[List.length_take]at i;omega
  have h:=o j b;rw[zZ,zX ω]at h
  simpa using h
 have e:(L.take (k+1)).filter (fun x => !p x)=L.take k:=by
  rw[rM l,List.filter_append,g];generalize L.getD k 0=x at d|-
  simp[d]
 refine⟨ω,by rw[e,List.length_take];omega,fun m n=>?_,fun m r f=>c m f⟩
 rw[e,c m ω,zZ,zZ,List.getElem?_take_of_lt n]
theorem Ey{L:List Int}{p:Int->Bool}{i j:Nat}{c:Array Value}(h:tZ L p i j c)(l:j<L.length)(d:p (L.getD j 0)=true):tZ L p i (j+1) c:=by
 have e:(L.take (j+1)).filter (fun x => !p x)=(L.take j).filter (fun x => !p x):=by
  rw[rM l,List.filter_append];generalize L.getD j 0=x at d|-
  simp[d]
 obtain⟨o,f,g,k⟩:=h;refine⟨ω,by rw[e];exact f,fun m n=>by rw[e];exact g m n,fun m a b=>k m ω b⟩
theorem Ex{L:List Int}{p:Int->Bool}{i j:Nat}{c:Array Value}(h:tZ L p i j c)(n:j<L.length)(r:L.length<=c.size)(g:p (L.getD j 0)=false):tZ L p (i+1) (j+1) (c.setIfInBounds i (.int .i64 (L.getD j 0))):=by
 have e:(L.take (j+1)).filter (fun x => !p x)=(L.take j).filter (fun x => !p x)++[L.getD j 0]:=by
  rw[rM n,List.filter_append];generalize L.getD j 0=x at g|-
  simp[g]
 obtain⟨o,f,k,l⟩:=h;generalize L.getD j 0=x at e|-;refine⟨ω,by rw[e,List.length_append,f];rfl,fun m q=>?_,fun m a b=>?_⟩
 ·rw[e,Array.getElem?_setIfInBounds]
  by_cases d:i=m
  ·rw[if_pos d,if_pos ω,zZ,List.getElem?_append_right ω,f,d]
   simp
  rw[if_neg d,k m ω,zZ,zZ,List.getElem?_append_left ω]
 rw[Array.getElem?_setIfInBounds,if_neg ω]
 exact l m ω b
theorem wV{w wr:World}{g k:Nat}{v:Value}(h:w.grownBy wr (some g)):w.grownBy (wr.setCell ⟨g,k,none⟩ v) (some g):=by
 refine⟨h.os,h.tape,h.output,by simpa [World.setCell]using h.size,fun i b a=>?_⟩
 rw[←h.block i b a];simp only[World.setCell,Array.getElem?_modify];rw[if_neg fun e=>a (by rw[e])]
theorem Ho(F:Nat)(Y:Array Value)(p:Int->Bool)(E:∀(args:Array Value) (w:World),(callFunc F args).run prog w=.ok (.enter F args) w)(base:Nat)(v:Value)(L:List Int)(w:World)(hn:L.length<=3000)(o:w.ownsRow base 3 1 v L.length (aA L))
  (Z:∀(x:Int) (w':World),x∈L->w.grownBy w' v.ownBlock->Calls prog F (#[.int .i64 x]++Y) w' fun e al=>e=.returned (.bool (p x))/\Bl w' al):
  Calls prog 188 #[v,.func (.func F) #[] Y] w fun e w'=>(∃A' c',e=.returned (.slice A' (L.filter fun x => !p x).length c')/\aJ w' A' c' (L.filter fun x => !p x))/\w.grownBy w' v.ownBlock:=by
 obtain⟨A,c,rfl,hI⟩:=cY o;have l:=AJ F Y p E A c L w ω hI.at fun x w' hx hB=>Z x w' hx (dJ hB)
 rcases findFrom_cases (fun j=>p (L.getD j 0)) L.length 0 with⟨R,h2⟩|⟨k,R,_,h3,h4,h5⟩
 ·have N:(L.filter fun x => !p x)=L:=by
   rw[List.filter_eq_self];intro x hx;obtain⟨j,hj,rfl⟩:=List.getElem_of_mem hx;have h:=h2 j zU ω
   simp only[zZ,zX hj]at h
   simpa using h
  have HF:=aa N;have HI:=aa hI;rw[R]at l;rw[N];generalize L.length=n at l;clear Z o hI R h2 N E
  go_enter func188,ntmps188
  go_wp2_with fail;refine l.mono ?_;rintro e w1⟨rfl,r⟩;go_wp2_with fail;go_ret;exact⟨⟨A,c,rfl,HI.o.later r⟩,dJ r⟩
 have hk:k<L.length:=ω;obtain⟨S,U,ag|⟨g,an,fr0,rfl,ah,-⟩⟩:=hI
 ·rw[ag]at hk;simp at hk
 obtain⟨b,f,V,D⟩:∃b:Array Value,w.heap[g]?=some (.cells b 3 (0,0))/\b.size=c/\∀m,m<L.length->b[m]?=some (.int .i64 (L.getD m 0)):=by
  rcases o.2 with⟨e,_⟩|⟨g',cap,b,e,hb,f,hc,J,hs,ht⟩
  ·cases e
  cases e;refine⟨b,f,ω,fun m J=>?_⟩
  have h:(aA L)[m]?=some (.int .i64 (L.getD m 0)):=by simp[aA,List.getD,zX J]
  rw[←ht,Nat.mul_one,List.getElem?_take_of_lt J]at h;rw[←h]
  simp
 have ae:Hid (tZ L p k (k+1) b):=zx hk h4 (fun j hj=>h5 j zU hj) D
 have HF:=aa Z;have ab:=aa V;rw[R]at l;obtain⟨n,K⟩:=ar L.length;have H:=aa K;have O:=aa f;rw[K]at l hk hn S|-;have av:(k:Int)<(n:Int):=ω;have aw:(n:Int)<=3000:=ω;have ax:((k:Int) == -1)=false:=by
  have:(k:Int)≠-1:=ω;simp only[beq_eq_false_iff_ne];exact this
 show Calls prog 188 #[.slice (some ⟨g,0,none⟩) n c,.func (.func F) #[] Y] w fun e w'=>(∃A' c',e=.returned (.slice A' (L.filter fun x => !p x).length c')/\aJ w' A' c' (L.filter fun x => !p x))/\w.grownBy w' (some g)
 clear Z o ah D V R h3 h4 h5 f K
 go_enter func188,ntmps188
 go_wp2_with fail;refine l.mono ?_;rintro e w1⟨rfl,r⟩;have P:Hid (w1.heap[g]?=some (.cells b 3 (0,0))/\w.grownBy w1 (some g)):=⟨(r.block g (zY O.o).1).trans O.o,dJ r⟩;clear r l;go_wp2_with fail
 go_loopg [5,6] (n-(k+1)) (fun gg s5 s6 wr =>∃(i j:Nat) (q:Array Value),j<=n/\gg=n-j/\s5=.int .i64 i/\s6=.int .i64 j/\Hid (tZ L p i j q/\q.size=c)/\wr.heap[g]?=some (.cells q 3 (0,0))/\w.grownBy wr (some g))
 case atStart=>exact⟨k,k+1,b,ω,rfl,rfl,by go_num,(⟨ae.o,ab.o⟩:_/\_),P.o.1,P.o.2⟩
 case round =>
  obtain⟨i,j,q,hj,rfl,rfl,rfl,y,f,M⟩:=hrel;have HG:=aa f;have Q:=aa M;have aq:=y.o.1.1;have X:g<wr.heap.size:=(zY f).1;have I:=y.o.2
  by_cases C:j<n
  ·have au:(j:Int)<(n:Int):=ω;have ai:(i:Int)<(n:Int):=ω;have cj:wr.cell? ⟨g,j,none⟩=some (.int .i64 (L.getD j 0)):=by
    rw[Lib.cell_of_heap f];exact y.o.1.2.2.2 j zT (by rw[H.o];exact C)
   have a:=HF.o (L.getD j 0) wr (by rw[zZ,zX (by rw[H.o];exact C)];exact List.getElem_mem _) M
   cases hp:p (L.getD j 0)
   ·rw[hp]at a
    have z:Hid (tZ L p (i+1) (j+1) (q.setIfInBounds i (.int .i64 (L.getD j 0)))/\(q.setIfInBounds i (.int .i64 (L.getD j 0))).size=c):=⟨Ex y.o.1 (by rw[H.o];exact C) (by rw[H.o,I];exact S) hp,by simpa using I⟩
    generalize L.getD j 0=x at cj a z;clear f M hp;go_wp2_with fail;refine a.mono ?_;rintro e w2⟨rfl,d⟩;have B:=(d.block g X).trans HG.o;have ci:(w2.cell? ⟨g,i,none⟩).isSome=true:=by
     rw[Lib.cell_of_heap B,Array.getElem?_eq_getElem ω]
     rfl
    obtain⟨old,ak⟩:∃old,w2.cell? ⟨g,i,none⟩=some old:=Option.isSome_iff_exists.1 ci;have ap:w2.frozen? ⟨g,i,none⟩=false:=Lib.frozen_of_heap B i;have G:Hid ((w2.setCell ⟨g,i,none⟩ (.int .i64 x)).heap[g]?=some (.cells (q.setIfInBounds i (.int .i64 x)) 3 (0,0))):=by
     show _=_
     simp[World.setCell,Array.getElem?_modify,B]
    have s:Hid (w.grownBy (w2.setCell ⟨g,i,none⟩ (.int .i64 x)) (some g)):=wV (jf Q.o (dJ d));clear d B a ci;go_wp2_with fail
    go_roundg (n-(j+1))
    case measure=>omega
    case rel=>exact⟨i+1,j+1,_,ω,rfl,by go_num,by go_num,z,G.o,s.o⟩
   rw[hp]at a;have z:Hid (tZ L p i (j+1) q/\q.size=c):=⟨Ey y.o.1 (by rw[H.o];exact C) hp,I⟩
   generalize L.getD j 0=x at cj a;clear f M hp;go_wp2_with fail;refine a.mono ?_;rintro e w2⟨rfl,d⟩;have G:=aa ((d.block g X).trans HG.o);have s:Hid (w.grownBy w2 (some g)):=jf Q.o (dJ d);clear d a;go_wp2_with fail
   go_roundg (n-(j+1))
   case measure=>omega
   case rel=>exact⟨i,j+1,_,ω,rfl,rfl,by go_num,z,G.o,s.o⟩
  have aj:j=n:=ω;subst aj;have ai:(i:Int)<(j:Int):=ω;have a:∀ty,(Builtin.clear_ #[42] ty #[.slice (some ⟨g,0+i,none⟩) (j-i) (c-i)]).run prog wr=.ok (.tuple #[]) (wr.setCells g (0+i) (List.replicate (j-i) (.int .i64 0))):=
   fun ty=>Lib.run_clear_slice wr _ _ ty _ underlying42 zeroValue3 rfl rfl g (0+i) _ _ ω (fun t ht=>by rw[Lib.cell_of_heap f,Array.getElem?_eq_getElem ω];rfl) (fun t _=>Lib.frozen_of_heap f _)
  have am:=aa y;have u:=kR g 3 (List.replicate (j-i) (.int .i64 0)) (0+i) q wr f (by simp;omega)
  obtain⟨W,hW⟩:=ar (wr.setCells g (0+i) (List.replicate (j-i) (Value.int .i64 0)));have ad:Hid (w.grownBy W (some g)):=by rw[←hW,u];exact jf M (sj wr g _)
  have af:Hid (aJ W (some ⟨g,0,none⟩) c (L.filter fun x => !p x)):=by
   have N:(L.filter fun x => !p x)=(L.take j).filter fun x => !p x:=by rw[List.take_of_length_le (by rw[H.o];exact zT)]
   have T:W.heap[g]?=some (.cells (q.toList.take (0+i)++List.replicate (j-i) (Value.int .i64 0)++q.toList.drop (0+i+(List.replicate (j-i) (Value.int .i64 0)).length)).toArray 3 (0,0)):=by rw[←hW,u];exact setRow_heap wr g q _ _ _ f
   refine⟨by rw[N,y.o.1.2.1];omega,U,Or.inr ⟨g,_,_,rfl,T,fun m J=>?_⟩⟩
   rw[N]at J|-;rw[y.o.1.2.1]at J;rw[Lib.cell_of_heap T,←y.o.1.2.2.1 m J];simp only[List.getElem?_toArray];rw[List.append_assoc,List.getElem?_append_left (by simp;omega),List.getElem?_take_of_lt ω]
   simp
  have ac:Hid ((L.filter fun x => !p x).length=i):=by
   show _=_
   rw[←y.o.1.2.1,List.take_of_length_le (by rw[H.o];exact zT)]
  rw[hW,Nat.zero_add]at a;have ao:(j:Int)<=(c:Int):=ω;clear f M u hW;go_wp2;go_ret;exact⟨⟨some ⟨g,0,none⟩,c,by rw[ac.o];rfl,af.o⟩,ad.o⟩
end Go.Proofs.YtjfampgnhccodaaGreatDoor
