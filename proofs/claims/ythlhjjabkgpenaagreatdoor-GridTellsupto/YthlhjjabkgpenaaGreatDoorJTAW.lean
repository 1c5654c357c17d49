/-
  Lists of nodes and of names in blocks of their own types: what Parse and Refs of package formula answer lies so.
-/
import Derived.Test.YthlhjjabkgpenaaGreatDoorJTAR
namespace Go.Proofs.YthlhjjabkgpenaaGreatDoor
open Go.ChangeShapes Go.WideShapes Go.ChangeAt Go.RowKit
open Go.Sort (putRow Holds grow holds_putRow)
set_option maxRecDepth 20000
def iR (w:World) (A:Option Addr) (c:Nat) (L:List Nd):Prop:=fQ w A c L∧(L=[]∨∃ b o cs fr,A=some ⟨b,o,none⟩∧w.heap[b]?=some (.cells cs 142 fr))
theorem iR.nil (w:World) (A:Option Addr) (c:Nat) (h:c≤9223372036854775807):iR w A c []:=⟨fQ.nil w A c h,Or.inl rfl⟩
theorem iR.keep {w w':World} {A:Option Addr} {c:Nat} {L:List Nd} (h:iR w A c L) (j:∀ (b:Nat) (cs:Array Value) (fr:Nat×Nat),w.heap[b]?=some (Obj.cells cs 142 fr)→w'.heap[b]?=w.heap[b]?):iR w' A c L:=by
 obtain ⟨⟨g,i,f⟩,e⟩:=h
 rcases e with e | ⟨b,o,cs,fr,hA,hb⟩
 ·exact ⟨⟨g,i,Or.inl e⟩,Or.inl e⟩
 have d:=j b cs fr hb;refine ⟨⟨g,i,?_⟩,Or.inr ⟨b,o,cs,fr,hA,d.trans hb⟩⟩
 rcases f with f | ⟨b',o',hA',h5,h6⟩
 ·exact Or.inl f
 rw [hA] at hA';cases hA';refine Or.inr ⟨b,o,hA,(zY (d.trans hb)).1,fun k l=>?_⟩
 obtain ⟨m,n,p,q,r⟩:=h6 k l;exact ⟨(World.cell?_of_block (a:=⟨b,_,none⟩) d).trans m,(World.cell?_of_block (a:=⟨b,_,none⟩) d).trans n,(World.cell?_of_block (a:=⟨b,_,none⟩) d).trans p,(World.cell?_of_block (a:=⟨b,_,none⟩) d).trans q,(World.cell?_of_block (a:=⟨b,_,none⟩) d).trans r⟩
theorem iR.later {w w':World} {A:Option Addr} {c:Nat} {L:List Nd} (h:iR w A c L) (a:Bl w w'):iR w' A c L :=
 h.keep fun b _ _ d=>a.block b (zY d).1
theorem Gf {w:World} {N:Nat} {A:Option Addr} {c:Nat} {l:List Nd} (h:w.ownsRow N 142 5 (.slice A l.length c) l.length (aK l)):iR w A c l:=by
 refine ⟨Ec h,?_⟩
 rcases h.2 with ⟨a,d⟩ | ⟨g,cap,b,a,f,e,-⟩
 ·exact Or.inl (List.eq_nil_of_length_eq_zero d)
 cases a;exact Or.inr ⟨g,0,_,_,rfl,e⟩
def jB (w:World) (A:Option Addr) (c:Nat) (L:List (List UInt8)):Prop:=f9 w A c L∧(L=[]∨∃ b o cs fr,A=some ⟨b,o,none⟩∧w.heap[b]?=some (.cells cs 9 fr))
theorem jB.nil (w:World) (A:Option Addr) (c:Nat) (h:c≤9223372036854775807):jB w A c []:=⟨f9.nil w A c h,Or.inl rfl⟩
theorem jB.keep {w w':World} {A:Option Addr} {c:Nat} {L:List (List UInt8)} (h:jB w A c L) (j:∀ (b:Nat) (cs:Array Value) (fr:Nat×Nat),w.heap[b]?=some (Obj.cells cs 9 fr)→w'.heap[b]?=w.heap[b]?):jB w' A c L:=by
 obtain ⟨⟨g,i,e⟩,d⟩:=h
 rcases d with d | ⟨b,o,cs,fr,hA,hb⟩
 ·exact ⟨⟨g,i,Or.inl d⟩,Or.inl d⟩
 have f:=j b cs fr hb;refine ⟨⟨g,i,?_⟩,Or.inr ⟨b,o,cs,fr,hA,f.trans hb⟩⟩
 rcases e with e | ⟨b',o',hA',h5,h6⟩
 ·exact Or.inl e
 rw [hA] at hA';cases hA';exact Or.inr ⟨b,o,hA,(zY (f.trans hb)).1,fun k l=>(World.cell?_of_block (a:=⟨b,_,none⟩) f).trans (h6 k l)⟩
theorem jB.later {w w':World} {A:Option Addr} {c:Nat} {L:List (List UInt8)} (h:jB w A c L) (a:Bl w w'):jB w' A c L :=
 h.keep fun b _ _ d=>a.block b (zY d).1
theorem ES {w:World} {g n:Nat} {d:Array (List UInt8)} {cs:Array Value} {T:Nat} {fr:Nat×Nat} (h:w.heap[g]?=some (.cells cs T fr)):∃ cs' fr',(putRow encStr (Sort.ahead w n) g 0 d).heap[g]?=some (.cells cs' T fr'):=by
 unfold putRow Sort.mapBlock;have a:(Sort.ahead w n).heap[g]?=some (.cells cs T fr):=h;simp only [Array.getElem?_modify,if_true,a,Option.map_some];exact ⟨_,_,rfl⟩
theorem DF {w:World} {g T:Nat} {os:Array Obj} (h:∃ cs fr,w.heap[g]?=some (.cells cs T fr)):∃ cs fr,(grow w os).heap[g]?=some (.cells cs T fr):=by
 obtain ⟨cs,fr,h⟩:=h;exact ⟨cs,fr,by rw [Sort.heap_grow_old _ _ (zY h).1];exact h⟩
theorem CW (N p:Nat) (b:Bld) (w:World) (q:N≤w.heap.size) (l:b.nodes.length+opsN b.waiting≤200) (m:b.ready.length≤200) (n:opsN b.waiting+1≤b.ready.length) (o:b.waiting.length≤200) (d:dh N p b w) :
  Calls Tryz.prog 203 #[.pointer (some ⟨p,0,none⟩)] w fun e w'=>(∃ A c,e=.returned (.slice A (settleB 0 b).nodes.length c)∧iR w' A c (settleB 0 b).nodes)∧Kept N (fun k=>k=p) w w':=by
 have h:=kn N p b 0 w q l m n o d;generalize settleB 0 b=b1 at *;clear d
 go_enter Tryz.func203,Tryz.ntmps203
 go_wp2_with fail;refine h.mono ?_;rintro e w1 ⟨rfl,⟨AN,j,AR,r,AW,s,a⟩,f⟩;have c0:=a.c0;have i:Hid (iR w1 AN j b1.nodes):=Gf a.nod;have g:=aa f;clear a f h;go_wp2_with fail;go_ret;exact ⟨⟨_,_,rfl,i.out⟩,g.out⟩
theorem nF (s:ByteArray) (w:World) (y:s.size≤100):Calls Tryz.prog 166 #[.string s] w fun e w'=>(∃ A c,e=.returned (.tuple #[.slice A (bE s).length c,.int .i64 (i6 s:Int),errV (prsE s)])∧iR w' A c (bE s))∧Bl w w':=by
 have hmf:∀ (fn:Fn) (first cap:Array Value) (w:World),(Instr.makeFunc fn first cap).run Tryz.prog w=.ok (.func fn first cap) w:=fun _ _ _ _=>rfl
 have S:(s.size:Int)≤100:=by omega
 have D:Hid ((dz s).1.at'≤s.size):=Hj _ (zU);have i:=Av (tkB (w.heap.size+4) w.heap.size) (Iv _ _) s noB (pD w) (by show s.size≤100;exact y) (by rw [ly];rfl) (by rw [ly];exact Nat.lt_succ_self _) (Gg w) F1 (dz s) rfl
 have E:Hid (Bl w (pD w)):=wE w;obtain ⟨W,hW⟩:=ax (pD w);have HZ:Hid ((pD w).heap.size=w.heap.size+1):=ly w;rw [hW] at i E HZ;unfold pD at hW;have U:(tkB (w.heap.size+4) w.heap.size).fv=.func (.func 200) #[.pointer (some ⟨w.heap.size,0,none⟩)] #[]:=rfl;rw [U] at i;have HI:Hid (∀ st w',(tkB (w.heap.size+4) w.heap.size).I st w'→dh (w.heap.size+4) w.heap.size st w'):=fun _ _ h=>h
 have HG:Hid (∀ a o ph st,(tkB (w.heap.size+4) w.heap.size).G a o ph st→FitB a o ph st):=fun _ _ _ _ h=>h
 have O:Hid ((tkB (w.heap.size+4) w.heap.size).p=w.heap.size∧(tkB (w.heap.size+4) w.heap.size).N=w.heap.size+4):=⟨rfl,rfl⟩;generalize tkB (w.heap.size+4) w.heap.size=T at *;cases hx:(dz s).2
 ·have q:prsE s=2:=by unfold prsE;rw [if_neg (by omega),if_neg (by rw [hx];decide)]
  have z:i6 s=(dz s).1.at':=by unfold i6;rw [if_neg (by omega),if_neg (by rw [hx];decide)]
  have Z:bE s=[]:=by unfold bE;rw [if_neg (by rw [q];decide)]
  rw [q,z,Z,aj (by decide)]
  have P:=aa hx;clear q z Z hx
  go_enter Tryz.func166,Tryz.ntmps166
  go_wp2_with fail;refine i.mono ?_;rintro e w1 ⟨⟨B,-⟩,⟨R,-⟩ | ⟨-,rfl⟩⟩
  ·exact absurd (P.out.symm.trans R) (by decide)
  have b:Hid (Bl w w1):=gw E.out B (by rw [O.out.1];exact zT)
  rw [aj (by decide)]
  clear B i;go_wp2_with fail;go_returns;exact ⟨⟨none,0,rfl,iR.nil _ _ _ (by omega)⟩,b.out⟩
 have q:prsE s=av (eg s):=by unfold prsE;rw [if_neg (by omega),if_pos hx]
 have z:i6 s=0:=by unfold i6;rw [if_neg (by omega),if_pos hx]
 have P:=aa hx;have F:=aa q;have n:Hid (bE s=if prsE s=0 then eg s else []):=rfl
 have M:Hid (eg s=(settleB 0 (dz s).1.st).nodes):=rfl;rw [q,z];clear q z hx
 go_enter Tryz.func166,Tryz.ntmps166
 go_wp2_with fail;refine i.mono ?_;rintro e w1 ⟨⟨B,C⟩,⟨-,rfl,Y,X⟩ | ⟨R,-⟩⟩
 case inr=>exact absurd (P.out.symm.trans R) (by decide)
 have b:Hid (Bl w w1):=gw E.out B (by rw [O.out.1];exact zT)
 obtain ⟨f1,Q,f3,f4,f5⟩:=HG.out _ _ _ _ X;simp only [if_true] at Q;rw [O.out.2] at C;have hat:(dz s).1.at'≤200:=by have:=D.out;omega
 have j:=CW (w.heap.size+4) w.heap.size (dz s).1.st w1 C (by omega) (by omega) Q (by omega) (HI.out _ _ Y)
 clear B i Y X f1 Q f3 f4 f5;rw [←M.out] at j;obtain ⟨L,r⟩:=ax (eg s);have x:=aa r;rw [r] at j F n;clear r;go_wp2_with fail;refine j.mono ?_;rintro e w2 ⟨⟨A,c,rfl,t⟩,g⟩;have u:Hid (Bl w w2):=⟨g.os.trans b.out.os,g.tape.trans b.out.tape,g.output.trans b.out.output,zV b.out.size g.size,fun k V=>by rw [g.block k (by omega) (by omega)];exact b.out.block k V⟩
 have J:=aa t;have f:=nB A c L w2 t.1;clear g t j
 by_cases l:av L=0
 ·have v:Hid (bE s=L):=by show _=_;rw [n.out,F.out,if_pos l]
  rw [l,errV_zero] at f;have H:=aa l;clear l;go_wp2_with fail;refine f.mono ?_;rintro e w3 ⟨rfl,d⟩;have m:=aa (ae u.out d);have K:=aa (J.out.later d);clear d f;go_wp2_with fail;go_returns;exact ⟨⟨A,c,by rw [v.out,x.out,H.out];rfl,by rw [v.out];exact K.out⟩,m.out⟩
 have v:Hid (bE s=[]):=by show _=_;rw [n.out,F.out,if_neg l]
 rw [aj l] at f;have H:Hid (errV (av L)=.iface 68 (.int .i64 (av L))):=aj l;clear l;go_wp2_with fail;refine f.mono ?_;rintro e w3 ⟨rfl,d⟩;have m:=aa (ae u.out d);clear d f;go_wp2_with fail;go_returns;exact ⟨⟨none,0,by rw [v.out,x.out,H.out];rfl,by rw [v.out];exact iR.nil _ _ _ (by omega)⟩,m.out⟩
theorem qg (A:Option Addr) (cap:Nat) (l:List Nd) (w:World) (U:fQ w A cap l):Calls Tryz.prog 167 #[.slice A l.length cap] w fun e w'=>(∃ A' c',e=.returned (.tuple #[.slice A' (aQ l).length c',errV (av l)])∧jB w' A' c' (aQ l))∧Bl w w':=by
 have f:=nB A cap l w U;obtain ⟨i0,hi0,hz0,hz1,hz2⟩:=info_parts Tryz.infoStrF
 by_cases H:av l=0
 case neg =>
  have V:aQ l=[]:=by unfold aQ;rw [if_neg H]
  rw [V];rw [aj H] at f ⊢;clear H V
  go_enter Tryz.func167,Tryz.ntmps167
  go_wp2_with fail;refine f.mono ?_;rintro e w1 ⟨rfl,B⟩;go_wp2_with fail;go_returns;exact ⟨⟨none,0,rfl,jB.nil _ _ _ (by omega)⟩,B⟩
 obtain ⟨Z,hl30,hg,-⟩:=dw H;have V:aQ l=Lib.compact ((dk l l.length).mergeSort fun x y=>decide (x≤y)):=by unfold aQ;rw [if_pos H]
 rw [H,errV_zero] at f ⊢;obtain ⟨-,-,h1 | ⟨b,o,rfl,U⟩⟩:=U
 ·rw [h1] at Z;simp at Z
 have HG:=aa hg;have HN:=aa U;have HP:=aa V;obtain ⟨n,hn⟩:=ax l.length;have HL:=aa hn;rw [hn] at f ⊢;have hni:(n:Int)≤30:=by omega
 clear H V hg U
 go_enter Tryz.func167,Tryz.ntmps167
 go_wp2_with fail;refine f.mono ?_;rintro e w1 ⟨rfl,B⟩;have HB1:=aa B;clear B f;go_wp2_with fail
 go_loopg [5,15] n (fun g s5 s15 wr => ∃ (k:Nat) (v:Value),k≤n∧g=n-k∧s15=.int .i64 k∧v=s5∧wr.ownsRow w.heap.size 9 1 v (dk l k).length ((dk l k).map encStr)∧Bl w wr)
 case atStart=>exact ⟨0,_,zU,rfl,rfl,rfl,World.ownsRow_nil _ _ _ _,HB1.out⟩
 case round =>
  obtain ⟨k,v,hk,rfl,rfl,rfl,hO,T⟩:=hrel;have p:=aa hO;have G:=aa T;have hln:=yS l k;clear hO T
  by_cases hlt:k<n
  ·have hki:(k:Int)<(n:Int):=by omega
   obtain ⟨x0,x1,x2,x3,x4⟩:=(HN.out.later G.out).nd (k:=k) (by omega)
   have hbl:b<w.heap.size:=HN.out.1;have hsz:=G.out.size;have d:=HG.out k (by omega)
   obtain ⟨x,hx⟩:=ax (l.getD k bH);have HX:=aa hx;rw [hx] at x0 x1 x2 x3 x4 d;clear hx;obtain ⟨m,hm⟩:=ax ((dk l k).length)
   by_cases R:x.op=2
   ·have HT:Hid (dk l (k+1)=dk l k ++ [x.name.data.toList]):=Gk (by omega) HX.out R
    have C:aJ x.name=0:=by
     unfold ndErr at d;rw [if_neg (by omega),if_neg (by omega),if_pos R] at d
     split at d
     ·cases d
     rename_i h;simpa using h
    have hns:x.name.size≤8:=by
     unfold aJ at C
     split at C
     ·cases C
     omega
    have W:=fun w=>oV x.name w (by omega)
    rw [R] at x0;rw [hm] at p;clear d C;go_wp2_with fail;refine (W _).mono ?_;rintro e w2 ⟨rfl,K⟩;have t:Hid (Bl w w2):=ae G.out (ae (by go_grown) K)
    have J:=ar p.out (ae (by go_grown) K)
    have hsz2:=t.out.size;clear K W
    go_wp2_with (at_builtin;refine wpList_append_own _ rfl _ _ 51 rfl w.heap.size 9 i0 (.string ⟨#[]⟩) 1 16 Tryz.underlying51 hi0 hz0 hz1 hz2 rfl (by decide) _ _ _ rfl (J.alloc _) ⟨w2.heap.size,0,none⟩ 1 1 [.string x.name] rfl rfl bu (by intro u hu;simp at hu;subst hu;rfl) (by unfold maxLen;omega) (by omega) (by simp;omega) ?_)
    intro v' w3 s r _;have E:Hid (Bl w w3):=bA t.out J r;have HO3:Hid (w3.ownsRow w.heap.size 9 1 v' (dk l (k+1)).length ((dk l (k+1)).map encStr)):=by
     show World.ownsRow ..
     rw [HT.out,List.length_append,List.map_append,hm];exact s
    clear s r J;go_wp2_with fail
    go_roundg (n-(k+1))
    case measure=>omega
    case rel=>exact ⟨k+1,_,by omega,rfl,by go_num,rfl,HO3.out,E.out⟩
   have HT:Hid (dk l (k+1)=dk l k):=Ei (by omega) HX.out R
   have e2:(x.op == 2)=false:=by simpa using R
   clear d R;go_wp2_with fail
   go_roundg (n-(k+1))
   case measure=>omega
   case rel=>exact ⟨k+1,_,by omega,rfl,by go_num,rfl,by rw [HT.out];exact ar p.out (by go_grown),ae G.out (by go_grown)⟩
  have hke:k=n:=by omega
  subst hke;obtain ⟨zs,Q⟩:=ax (dk l k);have HZ:Hid (aQ l=Lib.compact (zs.mergeSort fun x y=>decide (x≤y))):=by show _=_;rw [HP.out,HL.out,Q]
  rw [Q] at p hln;clear Q
  by_cases hz:zs=[]
  ·subst hz
   have hv:v=.slice none 0 0∨∃ g c,v=.slice (some ⟨g,0,none⟩) 0 c∧c≤maxLen:=by
    rcases p.out.2 with ⟨h,_⟩ | ⟨g,c,S,h,_,_,_,hm,_⟩
    ·exact Or.inl h
    exact Or.inr ⟨g,c,h,hm⟩
   have z:Hid (aQ l=[]):=by show _=_;rw [HZ.out,List.mergeSort_nil];rfl
   rcases hv with rfl | ⟨g,c,rfl,L⟩
   ·have i:=Any.slices_Sort_string_none Tryz.lays190 none 0 wr
    have a:=Any.slices_Compact_string_empty Tryz.lays194 none 0 wr;clear p;go_wp2_with fail;refine Calls.mono i ?_;rintro e w2 ⟨rfl,rfl⟩;go_wp2_with fail;refine Calls.mono a ?_;rintro e w3 ⟨rfl,rfl⟩;go_wp2_with fail;go_returns;exact ⟨⟨none,0,by rw [z.out];rfl,by rw [z.out];exact jB.nil _ _ _ (by omega)⟩,G.out⟩
   have i:=Any.slices_Sort_string_none Tryz.lays190 (some ⟨g,0,none⟩) c wr;have a:=Any.slices_Compact_string_empty Tryz.lays194 (some ⟨g,0,none⟩) c wr;clear p;go_wp2_with fail;refine Calls.mono i ?_;rintro e w2 ⟨rfl,rfl⟩;go_wp2_with fail;refine Calls.mono a ?_;rintro e w3 ⟨rfl,rfl⟩;go_wp2_with fail;go_returns;exact ⟨⟨some ⟨g,0,none⟩,c,by rw [z.out];rfl,by rw [z.out];exact jB.nil _ _ _ (by unfold maxLen at L;omega)⟩,G.out⟩
  have hpos:0<zs.length:=List.length_pos_iff.2 hz;obtain ⟨g,c,rfl,X,Y,hnc,L,-,hH⟩:=Lib.holds_of_ownsRow p.out (by intro e;have:=p.out.2;rcases this with ⟨_,h⟩ | ⟨g,c,S,h,_⟩;omega;rw [e] at h;cases h)
  have HTy:Hid (∃ cs fr,wr.heap[g]?=some (.cells cs 9 fr)):=by
   rcases p.out.2 with ⟨h,-⟩ | ⟨g',c',S,h,-,hg',-⟩
   ·cases h
   cases h;exact ⟨_,_,hg'⟩
  have i:=Any.slices_Sort_string Tryz.lays190 g 0 c zs wr hH Y (by omega)
  clear p;go_wp2_with fail;refine Calls.mono i ?_;rintro e w2 ⟨rfl,q,os,j⟩;obtain ⟨D,P⟩:=ax ((zs.mergeSort fun x y=>decide (x≤y)))
  have O:D.length=zs.length:=by rw [←P];exact List.length_mergeSort zs
  rw [P] at HZ j;have t:Hid (Bl w w2):=by rw [j];exact si G.out X
  have hg2:g<w2.heap.size:=by rw [j];simp;omega
  have I:Holds encStr w2 g 0 D.toArray:=by
   rw [j];exact Sort.holds_grow encStr _ _ _ _ _ (by simpa using Y) (holds_putRow encStr (Sort.ahead wr q) g 0 zs.toArray _ hH (by simp [O]))
  have a:=Any.slices_Compact_string Tryz.lays194 g 0 c D w2 I (by omega) (by omega)
  rw [O] at a;have HT2:Hid (∃ cs fr,w2.heap[g]?=some (.cells cs 9 fr)):=by
   obtain ⟨cs,fr,M⟩:=HTy.out;rw [j];exact DF (ES (n:=q) M)
  have F:Hid (∀ q2,f9 (putRow encStr (Sort.ahead w2 q2) g 0 (Lib.compact D ++ List.replicate (D.length-(Lib.compact D).length) []).toArray) (some ⟨g,0,none⟩) c (Lib.compact D)):=fun q2=>us I (by omega) L hg2
  rw [O] at F;clear j P i hH I;go_wp2_with fail;refine Calls.mono a ?_;rintro e w3 ⟨rfl,q2,N⟩;have E:Hid (Bl w w3):=by rw [N];exact rS t.out X
  have HS3:Hid (jB w3 (some ⟨g,0,none⟩) c (Lib.compact D)):=by
   rw [N];obtain ⟨cs,fr,M⟩:=HT2.out;obtain ⟨cs',fr',Lt⟩:=ES (n:=q2) M;exact ⟨F.out q2,Or.inr ⟨g,0,_,_,rfl,Lt⟩⟩
  clear N a F;go_wp2_with fail;go_returns;exact ⟨⟨some ⟨g,0,none⟩,c,by rw [HZ.out];rfl,by rw [HZ.out];exact HS3.out⟩,E.out⟩
theorem Dz (s:ByteArray) (w:World) (a:s.size≤100):Calls Tryz.prog 166 #[.string s] w fun e w'=>(∃ A c,e=.returned (.tuple #[.slice A (bE s).length c,.int .i64 (i6 s:Int),errV (prsE s)])∧fQ w' A c (bE s))∧Bl w w' :=
 (nF s w a).mono fun _ _ ⟨⟨A,c,b,d⟩,f⟩=>⟨⟨A,c,b,d.1⟩,f⟩
theorem F2 (A:Option Addr) (cap:Nat) (l:List Nd) (w:World) (f:fQ w A cap l):Calls Tryz.prog 167 #[.slice A l.length cap] w fun e w'=>(∃ A' a,e=.returned (.tuple #[.slice A' (aQ l).length a,errV (av l)])∧f9 w' A' a (aQ l))∧Bl w w' :=
 (qg A cap l w f).mono fun _ _ ⟨⟨A',a,b,c⟩,d⟩=>⟨⟨A',a,b,c.1⟩,d⟩
end Go.Proofs.YthlhjjabkgpenaaGreatDoor
