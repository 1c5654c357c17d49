/- What the small functio -/
import Derived.Test.YthlhjjabkgpenaaGreatDoorJTBA
namespace Go.Proofs.YthlhjjabkgpenaaGreatDoor
open ChangeShapes WideShapes ChangeAt RowKit
set_option maxRecDepth 99999
set_option maxHeartbeats 0
theorem EI (i:Int) (m q:Nat) (w:World) (h:w.cell? ⟨q,0,none⟩=some (.int .i64 m)):Rt 69 #[.int .i64 i,.pointer (some ⟨q,0,none⟩)] w (.bool (aH m i)):=by
 unfold aH
 by_cases a:i<0
 ·go_enter Tryz.func69,Tryz.ntmps69
  go_wp2;go_ret;exact ⟨by simp <;> omega,by go_grown⟩
 go_enter Tryz.func69,Tryz.ntmps69
 go_wp2;go_ret;exact ⟨by simp <;> omega,by go_grown⟩
theorem ge (A:Option Addr) (c:Nat) (L:List Int) (m:Nat) (w:World) (k:L.length≤1048576) (g:aO w A c L):Rt 26 #[.slice A L.length c,.int .i64 m] w (.bool (L.any (aH m))):=by
 obtain ⟨W,i⟩:=ax (w.alloc (.cells #[.int .i64 m] 3));have a:Bl w W:=by rw [←i];go_grown
 have d:W.heap[w.heap.size]?=some (.cells #[.int .i64 m] 3 (0,0)):=by rw [←i];exact heap_alloc_new ..
 have h:=nt 69 #[.pointer (some ⟨w.heap.size,0,none⟩)] (aH m) (fun args w=>by simp [callFunc,Tryz.func69];rfl) A c L W k (g.later a) fun x w' _ j=>EI x m w.heap.size w' ((j.cell (p:=⟨w.heap.size,0,none⟩) (zY d).1).trans ((Lib.cell_of_heap d 0).trans rfl))
 rw [sD] at h;have b:=aa a
 show Calls _ _ _ _ fun e w'=>e=.returned (.bool (anyL (aH m) L))∧_
 generalize anyL (aH m) L=r at h;generalize L.length=l at h;clear g d a
 go_enter Tryz.func26,Tryz.ntmps26
 go_wp2_with fail;refine h.mono ?_;rintro e w1 ⟨rfl,f⟩;go_wp2_with fail;go_ret;exact ⟨rfl,ae b.out f⟩
def eP (n:Nat):List Int:=(List.range n).map fun i:Nat=>(i:Int)
theorem risL_len (n:Nat):(eP n).length=n:=by simp [eP]
def gl (n k:Nat):List Int:=(List.range n).map fun i:Nat=>if i<k then (i:Int) else 0
theorem B0 (n k:Nat):(gl n k).length=n:=by simp [gl]
theorem xj (n:Nat):gl n 0=List.replicate n 0:=by
 refine List.ext_getElem (by simp [gl]) fun _ _ _=>?_
 simp [gl]
theorem BZ (n:Nat):gl n n=eP n:=List.map_congr_left fun _ a=>if_pos (List.mem_range.1 a)
theorem B1 (n k:Nat):(gl n k).set k (k:Int)=gl n (k+1):=by
 refine List.ext_getElem (by simp [gl]) fun i b c=>?_
 rw [List.getElem_set]
 by_cases e:k=i
 ·subst e
  simp [gl]
 rw [if_neg e];simp only [gl,List.getElem_map,List.getElem_range]
 by_cases a:i<k
 ·rw [if_pos a,if_pos (by omega)]
 rw [if_neg a,if_neg (by omega)]
theorem tn (A:Option Addr) (c n:Nat) (w:World) (s:n≤12):Calls Tryz.prog 27 #[.slice A n c] w fun e w'=>e=.returned (.slice (some ⟨w.heap.size,0,none⟩) n n)∧cd w' w.heap.size (eP n)∧Bl w w':=by
 have m:=run_make_row' (P:=Tryz.prog) 26 3 (.int .i64 0) 8 Tryz.underlying26 Tryz.infoInt rfl .i64 .i64 n (by omega) (by omega)
 have o:(n:Int)≤12:=by omega
 have g:Hid (cd (w.alloc (.cells (madeCells #[.int .i64 0] n) 3)) w.heap.size (gl n 0)):=by
  show cd ..
  rw [xj];exact cd.made w n
 go_enter Tryz.func27,Tryz.ntmps27
 go_wp2_with fail
 go_loopg [10] n (fun gg s10 wr => ∃ (k:Nat),k≤n∧gg=n-k∧s10=.int .i64 k∧Hid (cd wr w.heap.size (gl n k))∧Hid (Bl w wr))
 case atStart=>exact ⟨0,zU,rfl,rfl,g,aa (by go_grown)⟩
 case round =>
  obtain ⟨k,q,rfl,rfl,b,d⟩:=hrel
  by_cases i:k<n
  ·have l:(k:Int)<(n:Int):=by omega
   have c0:=b.out.cell (j:=k) (by rw [B0];exact i)
   have p:=b.out.frozen k;have r:=b.out.lt;have a:Hid (cd (wr.setCell ⟨w.heap.size,k,none⟩ (.int .i64 k)) w.heap.size (gl n (k+1))):=by
    show cd ..
    rw [←B1];exact b.out.set k k
   have f:Hid (Bl w (wr.setCell ⟨w.heap.size,k,none⟩ (.int .i64 k))):=d.out.setCell (zT) _;clear b d;go_wp2_with fail
   go_roundg (n-(k+1))
   case measure=>omega
   case rel=>exact ⟨k+1,by omega,rfl,by go_num,a,f⟩
  have h:k=n:=by omega
  subst h;have a:Hid (cd wr w.heap.size (eP k)):=by
   show cd ..
   rw [←BZ];exact b.out
  go_wp2_with fail;go_ret;exact ⟨rfl,a.out,d.out⟩
def PB (w:World) (g:Nat) (L:List Int):Prop := ∃ cur:Array Value,w.heap[g]?=some (.cells cur 3 (0,0))∧∀ j,j<L.length→cur[j]?=some (.int .i64 (L.getD j 0))
section
variable {w w':World} {g:Nat} {L:List Int}
theorem PB.lt (h:PB w g L):g<w.heap.size:=by
 obtain ⟨a,b,_⟩:=h;exact (zY b).1
theorem PB.same (h:PB w g L) (d:w'.heap[g]?=w.heap[g]?):PB w' g L:=by
 obtain ⟨a,b,c⟩:=h;exact ⟨a,d.trans b,c⟩
theorem PB.cell (h:PB w g L) {j:Nat} (d:j<L.length):w.cell? ⟨g,j,none⟩=some (.int .i64 (L.getD j 0)):=by
 obtain ⟨a,b,c⟩:=h;rw [Lib.cell_of_heap b];exact c j d
theorem PB.frozen (h:PB w g L) (j:Nat):w.frozen? ⟨g,j,none⟩=false:=by
 obtain ⟨a,b,_⟩:=h;exact Lib.frozen_of_heap b j
theorem PB.set (h:PB w g L) {x:Nat} (v:Int):PB (w.setCell ⟨g,x,none⟩ (.int .i64 v)) g (L.set x v):=by
 obtain ⟨a,d,f⟩:=h;refine ⟨a.setIfInBounds x (.int .i64 v),by simp [World.setCell,Array.getElem?_modify,d],fun k b=>?_⟩
 rw [List.length_set] at b;have c:=f k b;have z:=(zY c).1
 by_cases e:k=x
 ·subst e
  rw [Array.getElem?_setIfInBounds_self_of_lt z]
  simp [List.getD,b]
 rw [Array.getElem?_setIfInBounds_ne (by omega),c]
 simp [List.getD,List.getElem?_set_ne (fun h=>e h.symm)]
theorem PB.pl (h:PB w g L) {c:Nat} (a:L.length≤c):aO w (some ⟨g,0,none⟩) c L:=⟨a,Or.inr ⟨g,0,rfl,h.lt,fun j b=>by rw [Nat.zero_add];exact h.cell b⟩⟩
theorem Ii {base:Nat} {v:Value} (h:w.ownsRow base 3 1 v L.length (L.map (Value.int .i64))) (o:0<L.length):∃ g c,v=.slice (some ⟨g,0,none⟩) L.length c∧base≤g∧L.length≤c∧PB w g L:=by
 rcases h.2 with ⟨_,l⟩ | ⟨g,cap,a,rfl,f,i,d,m,n,e⟩
 ·omega
 refine ⟨g,cap,rfl,f,d,a,i,fun k j=>?_⟩
 have b:(L.map (Value.int .i64))[k]?=some (.int .i64 (L.getD k 0)):=by simp [List.getD,j]
 rw [←e,List.getElem?_take,if_pos (by omega),Array.getElem?_toList] at b
 exact b
end
theorem Cj {L L':List Int} {i k:Nat} (l:L'.length=L.length) (h:∀ j,j≠i→j≠k→L'.getD j 0=L.getD j 0) (x y:Int):(L'.set i x).set k y=(L.set i x).set k y:=by
 refine List.ext_getElem (by simp [l]) fun j c d=>?_
 simp only [List.getElem_set]
 by_cases a:k=j
 ·rw [if_pos a,if_pos a]
 by_cases b:i=j
 ·rw [if_neg a,if_neg a,if_pos b,if_pos b]
 rw [if_neg a,if_neg a,if_neg b,if_neg b];have f:j<L'.length:=by simpa using c
 have g:j<L.length:=by simpa using d
 have:=h j (fun e=>b e.symm) (fun e=>a e.symm)
 simpa [List.getD,f,g] using this
theorem Ck (L:List Int) (i k:Nat) (x y:Int) (j:Nat) (a:j≠i) (b:j≠k):((L.set i x).set k y).getD j 0=L.getD j 0:=by
 simp [List.getD,List.getElem?_set_ne (fun h=>a h.symm),List.getElem?_set_ne (fun h=>b h.symm)]
def IU (w0:World) (q1 gP n cP row col:Nat) (L:List Int) (w:World):Prop:=Bl w0 w∧w.cell? ⟨q1,0,none⟩=some (.slice (some ⟨gP,0,none⟩) n cP)∧∃ L',L'.length=n∧(∀ j,j≠row→j≠col→L'.getD j 0=L.getD j 0)∧PB w gP L'
theorem Id (args:Array Value) (w:World):(callFunc 30 args).run Tryz.prog w=.ok (.enter 30 args) w:=by simp [callFunc,Tryz.func30];rfl
theorem Gb (t q2 q3 q4 q5 gP H:Nat) (A0:Option Addr) (cap n:Nat) (D:Nat→Dm) (A:Nat→Option Addr) (C:Nat→Nat) (AV:Option Addr) (cV:Nat) (V:List (Int×Int)) (L:List Int) (row d r c:Nat) (w0 w:World) (R:InO D n ((L.set row r).set d c)) (J:V.length=prodN D n) (T:L.length=n) (hrow:row<n) (hcol:d<n) (hcP:n≤H) (hgP:w0.heap.size≤gP) (Lv:t≠gP)
  (hM:bd w0 A0 cap n D A C) (hV:dt w0 AV cV V) (c2:w0.cell? ⟨q2,0,none⟩=some (.int .i64 row)) (c3:w0.cell? ⟨q3,0,none⟩=some (.int .i64 d)) (c4:w0.cell? ⟨q4,0,none⟩=some (.slice A0 n cap)) (c5:w0.cell? ⟨q5,0,none⟩=some (.slice AV (prodN D n) cV)) (S:IU w0 t gP n H row d L w) :
  Calls Tryz.prog 30 #[.int .i64 r,.int .i64 c,.pointer (some ⟨t,0,none⟩),.pointer (some ⟨q2,0,none⟩),.pointer (some ⟨q3,0,none⟩),.pointer (some ⟨q4,0,none⟩),.pointer (some ⟨q5,0,none⟩)] w fun e w'=>e=.returned (.tuple #[.agg #[.int .i64 (V.getD (numI D ((L.set row r).set d c) n).toNat noC).1,.int .i64 (V.getD (numI D ((L.set row r).set d c) n).toNat noC).2],.nilIface])∧IU w0 t gP n H row d L w'∧Kept w.heap.size (fun b=>b=gP) w w':=by
 obtain ⟨g,cq,L',Lt,X,W⟩:=S;have I:=Cj (Lt.trans T.symm) X r c;obtain ⟨hn1,hn4,hp3,hd⟩:=aw R.right;have z2:=World.block_lt_of_cell? _ _ c2;have z3:=World.block_lt_of_cell? _ _ c3;have z4:=World.block_lt_of_cell? _ _ c4;have z5:=World.block_lt_of_cell? _ _ c5;have z1:=World.block_lt_of_cell? _ _ cq;simp only at z1 z2 z3 z4 z5;obtain ⟨y,hy⟩:=ax (w.alloc (.cells #[.int .i64 0,.int .i64 0] 40));have B:Bl w y:=by rw [←hy];go_grown
 have Lx:y.heap[w.heap.size]?=some (.cells #[.int .i64 0,.int .i64 0] 40 (0,0)):=by rw [←hy];exact heap_alloc_new ..
 have z:=ae g B;have p:=W.same (B.block _ W.lt);have y1:=aL B z1 cq;have y2:=aL z z2 c2;have y3:=aL z z3 c3;have yr:=p.cell (j:=row) (by omega)
 have fr:=p.frozen row;have fc:=p.frozen d;have hgy:=p.lt;obtain ⟨Z,O⟩:=ax (((y.setCell ⟨gP,row,none⟩ (.int .i64 r)).setCell ⟨gP,d,none⟩ (.int .i64 c)).drew);have F:=p.set (x:=row) r;have yc:=F.cell (j:=d) (by rw [List.length_set];omega)
 have fcr:=F.frozen d;have yr1:=(World.cell?_of_block (a:=⟨t,0,none⟩) (ao y gP row t (.int .i64 r) Lv)).trans y1;have yr3:=(World.cell?_of_block (a:=⟨q3,0,none⟩) (ao y gP row q3 (.int .i64 r) (by omega))).trans y3
 have k:∀ b,b≠gP→Z.heap[b]?=y.heap[b]?:=fun b q=>by rw [←O];exact (ao _ _ _ _ _ q).trans (ao _ _ _ _ _ q)
 have hZs:Z.heap.size=y.heap.size:=by rw [←O];simp [World.drew]
 have E:PB Z gP ((L.set row r).set d c):=by rw [←I,←O];exact (F.set (x:=d) c).same rfl
 have f:Kept w.heap.size (fun b=>b=gP) w Z:=by
  have k1:Kept w.heap.size (fun b=>b=gP) w y:=aq B (zT)
  exact ⟨by rw [←O];exact k1.os,by rw [←O];exact k1.tape,by rw [←O];exact k1.output,by rw [hZs];exact k1.size,fun b q hx=>(k b hx).trans (k1.block b q hx)⟩
 have l:Bl w0 Z:=⟨f.os.trans g.os,f.tape.trans g.tape,f.output.trans g.output,zV g.size f.size,fun b q=>(f.block b (zW q g.size) (by omega)).trans (g.block b q)⟩
 have Z1:Z.cell? ⟨t,0,none⟩=some (.slice (some ⟨gP,0,none⟩) n H):=(World.cell?_of_block (a:=⟨t,0,none⟩) (k t Lv)).trans y1;have Z4:=aL l z4 c4;have K:Z.heap[w.heap.size]?=some (.cells #[.int .i64 0,.int .i64 0] 40 (0,0)):=(k _ (by have:=W.lt;omega)).trans Lx
 have G:((L.set row r).set d c).length=n:=by simp [T]
 have i:=mj A0 cap n D A C (some ⟨gP,0,none⟩) H _ Z (hM.later l) (E.pl (c:=H) (by rw [G];exact hcP))
 have Y:=bJ R (Nat.le_refl n);have Lu:rJ D n ((L.set row r).set d c)=numI D ((L.set row r).set d c) n:=by unfold rJ;rw [if_pos R.ok]
 rw [G,R.ok,errV_zero,Lu] at i;obtain ⟨m,hm⟩:∃ m:Nat,numI D ((L.set row r).set d c) n=m:=⟨(numI D ((L.set row r).set d c) n).toNat,by omega⟩
 rw [hm] at i ⊢;rw [hm] at Y;have hmN:m<prodN D n:=by omega
 simp only [Int.toNat_natCast];have HV:Hid (∀ w',Bl Z w'→∃ b o,AV=some ⟨b,o,none⟩∧b<w'.heap.size∧w'.cell? ⟨b,o+m*2,none⟩=some (.int .i64 (V.getD m noC).1)∧w'.cell? ⟨b,o+m*2+1,none⟩=some (.int .i64 (V.getD m noC).2)):=fun w' h=>by
  obtain ⟨-,-,h0 | ⟨b,o,h1,h2⟩⟩:=(hV.later l).later h
  ·rw [h0] at J;simp at J;omega
  exact ⟨b,o,h1,h2.1,h2.2 m (by omega)⟩
 have Q:Hid (∀ w',Bl Z w'→∀ u v:Value,IU w0 t gP n H row d L ((w'.setCell ⟨w.heap.size,0,none⟩ u).setCell ⟨w.heap.size,1,none⟩ v)∧Kept w.heap.size (fun b=>b=gP) w ((w'.setCell ⟨w.heap.size,0,none⟩ u).setCell ⟨w.heap.size,1,none⟩ v)):=fun w' h u v=>by
  have P:Kept w.heap.size (fun b=>b=gP) w ((w'.setCell ⟨w.heap.size,0,none⟩ u).setCell ⟨w.heap.size,1,none⟩ v):=fM (fM (f.trans (aq h f.size)) (zT)) (zT)
  have ho:∀ b,b≠w.heap.size→b<Z.heap.size→((w'.setCell ⟨w.heap.size,0,none⟩ u).setCell ⟨w.heap.size,1,none⟩ v).heap[b]?=Z.heap[b]?:=fun b q hz=>((ao _ _ _ _ _ q).trans (ao _ _ _ _ _ q)).trans (h.block b hz)
  refine ⟨⟨⟨P.os.trans g.os,P.tape.trans g.tape,P.output.trans g.output,zV g.size P.size,fun b q=>(P.block b (zW q g.size) (by omega)).trans (g.block b q)⟩,?_,(L.set row r).set d c,G,Ck L row d r c,?_⟩,P⟩
  ·exact (World.cell?_of_block (a:=⟨t,0,none⟩) (ho t (by omega) (zW z1 f.size))).trans Z1
  exact E.same (ho gP (by have:=W.lt;omega) E.lt)
 have HZb:=aa K;have z5Z:q5<Z.heap.size:=zW z5 l.size;have Z5:=aL l z5 c5;have Lw:w.heap.size<Z.heap.size:=(zY K).1;have hrI:(row:Int)<(n:Int):=by omega
 have hcI:(d:Int)<(n:Int):=by omega
 have hmI:(m:Int)<((prodN D n:Nat):Int):=by omega
 have hcPI:(n:Int)≤(H:Int):=by omega
 generalize (V.getD m noC).1=va at HV;generalize (V.getD m noC).2=vb at HV;generalize prodN D n=N at hmI Z5;generalize L'.getD row 0=x1 at yr;generalize ((L'.set row r).getD d 0)=x2 at yc;clear g cq W X I R hM hV c2 c3 c4 c5 B Lx z p F k E f l K G Y Lu hm hmN hd hp3 J Lt z1 z2 z3 z4
 go_enter Tryz.func30,Tryz.ntmps30
 go_wp2_with fail
 go_region
 go_wp2_with fail;refine i.mono ?_;rintro e w2 ⟨rfl,s⟩;obtain ⟨bv,ov,rfl,hbv,v1,v2⟩:=HV.out w2 s;have d5:=aL s z5Z Z5;have h2s:w.heap.size<w2.heap.size:=zW Lw s.size;have M:=(s.block _ Lw).trans HZb.out;obtain ⟨s0,s1,g0,g1⟩:=bP M;have HE:=aa (Q.out w2 s (.int .i64 va) (.int .i64 vb));obtain ⟨t0,t1,-,-⟩:=bP (gV (a:=.int .i64 va) (b:=.int .i64 vb) M);obtain ⟨U,hU⟩:=ax ((w2.setCell ⟨w.heap.size,0,none⟩ (.int .i64 va)).setCell ⟨w.heap.size,1,none⟩ (.int .i64 vb));rw [hU] at t0 t1 HE;clear s M i;go_wp2_with fail;exact bodyPost_ret (v:=.tuple #[.agg #[.int .i64 va,.int .i64 vb],.nilIface]) (by simp [results,Tryz.results30,go_sem,t0,t1]) rfl ⟨rfl,HE.out⟩
theorem mP {w:World} {q:Nat} {x y z a b c:Value} {T:Nat} (h:w.heap[q]?=some (.cells #[x,y,z] T)):(((w.setCell ⟨q,0,none⟩ a).setCell ⟨q,1,none⟩ b).setCell ⟨q,2,none⟩ c).heap[q]?=some (.cells #[a,b,c] T):=by
 simp [World.setCell,Array.getElem?_modify,h]
theorem de {w:World} {q:Nat} {x y z:Value} {T:Nat} (h:w.heap[q]?=some (.cells #[x,y,z] T)):w.cell? ⟨q,0,none⟩=some x∧w.cell? ⟨q,1,none⟩=some y∧w.cell? ⟨q,2,none⟩=some z∧w.frozen? ⟨q,0,none⟩=false∧w.frozen? ⟨q,1,none⟩=false∧w.frozen? ⟨q,2,none⟩=false :=
 ⟨by rw [Lib.cell_of_heap h];rfl,by rw [Lib.cell_of_heap h];rfl,by rw [Lib.cell_of_heap h];rfl,Lib.frozen_of_heap h 0,Lib.frozen_of_heap h 1,Lib.frozen_of_heap h 2⟩
theorem jf {w w':World} {q:Nat} {a b c:Value} (h:Bl w w') (d:w.heap.size≤q):Bl w (((w'.setCell ⟨q,0,none⟩ a).setCell ⟨q,1,none⟩ b).setCell ⟨q,2,none⟩ c):=((h.setCell d _).setCell d _).setCell d _
theorem zt {α:Type} (d:α) (p:α→Bool) (L:List α):decide (0≤findFrom (fun j=>p (L.getD j d)) L.length 0)=L.any p:=by
 rcases findFrom_cases (fun j=>p (L.getD j d)) L.length 0 with ⟨a,c⟩ | ⟨k,a,-,h,e,-⟩
 ·rw [a]
  symm
  rw [List.any_eq_false.2 fun x g=>?_]
  ·rfl
  obtain ⟨j,f,rfl⟩:=List.getElem_of_mem g;have:=c j (zU) (by omega)
  simpa [List.getD,f] using this
 have b:k<L.length:=by omega
 rw [a,decide_eq_true (by omega)]
 symm
 refine List.any_eq_true.2 ⟨L[k],List.getElem_mem b,?_⟩
 simpa [List.getD,b] using e
theorem vY (F:Nat) (cap:Array Value) (p:CsL→Bool) (G:∀ (args:Array Value) (w:World),(callFunc F args).run Tryz.prog w=.ok (.enter F args) w) (A:Option Addr) (c:Nat) (L:List CsL) (w:World) (Q:L.length≤1048576) (M:eQ w A c L)
  (E:∀ (x:CsL) (w':World),x∈L→Bl w w'→Calls Tryz.prog F (#[.slice x.A x.L.length x.c] ++ cap) w' fun e w''=>e=.returned (.bool (p x))∧Bl w' w'') :
  Rt 71 #[.slice A L.length c,.func (.func F) #[] cap] w (.int .i64 (findFrom (fun j=>p (L.getD j noCs)) L.length 0)):=by
 obtain ⟨N,-,K | ⟨b,o,rfl,B,d⟩⟩:=M
 ·subst K
  simp only [List.length_nil]
  go_enter Tryz.func71,Tryz.ntmps71
  go_wp2_with fail;refine wp_loop_rounds 1 ?_;rw [rounds_succ];go_wp2_with fail;go_ret;exact ⟨rfl,zS⟩
 have D:Hid (∀ j,j<L.length→w.cell? ⟨b,o+j,none⟩=some (.slice (L.getD j noCs).A (L.getD j noCs).L.length (L.getD j noCs).c)):=fun j O=>(d j O).1
 have I:=aa E;obtain ⟨pj,q⟩:∃ pj:Nat→Bool,pj=fun j=>p (L.getD j noCs):=⟨_,rfl⟩
 have J:Hid (∀ j,pj j=p (L.getD j noCs)):=fun j=>by rw [q]
 rw [←q];obtain ⟨n,l⟩:=ax L.length;have v:=aa l;rw [l] at Q N D ⊢;clear d q l E
 go_enter Tryz.func71,Tryz.ntmps71
 go_wp2_with fail
 go_loopg [8] n (fun g s8 wr => ∃ (k:Nat),k≤n∧g=n-k∧s8=.int .i64 k∧findFrom pj (n-k) k=findFrom pj n 0∧Bl w wr)
 case atStart=>exact ⟨0,zU,rfl,rfl,rfl,zS⟩
 case round =>
  obtain ⟨k,T,rfl,rfl,H,f⟩:=hrel;have y:=aa H;have z:=aa f;clear H
  by_cases t:k<n
  ·have P:(k:Int)<(n:Int):=by omega
   have i:=aL f B (D.out k t);have R:(n:Int)≤1048576:=by omega
   have r:=J.out k;have s:Hid (n-k=(n-(k+1))+1):=by show _=_;omega
   have a:=I.out (L.getD k noCs) wr (by rw [zZ,zX (by rw [v.out];exact t)];exact List.getElem_mem _) f
   rw [←r] at a;generalize L.getD k noCs=x at i r a;obtain ⟨S,U,V⟩:=x;simp only at i a;generalize S.length=m at i a;clear f r;cases hb:pj k
   ·rw [hb] at a
    have u:=aa hb;clear hb;go_wp2_with fail;refine a.mono ?_;rintro e w1 ⟨rfl,h⟩;go_wp2_with fail
    go_roundg (n-(k+1))
    case measure=>omega
    case rel=>exact ⟨k+1,by omega,rfl,by go_num,by rw [←y.out,s.out,aU _ u.out],ae z.out h⟩
   rw [hb] at a;have u:=aa hb;clear hb;go_wp2_with fail;refine a.mono ?_;rintro e w1 ⟨rfl,h⟩;go_wp2_with fail;go_ret;exact ⟨by rw [←y.out,s.out,aW _ u.out];rfl,ae z.out h⟩
  have C:k=n:=by omega
  subst C;go_wp2_with fail;go_ret;exact ⟨by rw [←y.out,Nat.sub_self];rfl,z.out⟩
theorem zM (F:Nat) (cap:Array Value) (p:CsL→Bool) (a:∀ (args:Array Value) (w:World),(callFunc F args).run Tryz.prog w=.ok (.enter F args) w) (A:Option Addr) (c:Nat) (L:List CsL) (w:World) (g:L.length≤1048576) (f:eQ w A c L)
  (d:∀ (x:CsL) (w':World),x∈L→Bl w w'→Calls Tryz.prog F (#[.slice x.A x.L.length x.c] ++ cap) w' fun e w''=>e=.returned (.bool (p x))∧Bl w' w'') :
  Rt 36 #[.slice A L.length c,.func (.func F) #[] cap] w (.bool (L.any p)):=by
 have h:=vY F cap p a A c L w g f d;rw [←zt noCs];generalize findFrom (fun j=>p (L.getD j noCs)) L.length 0=r at *
 clear d f
 go_enter Tryz.func36,Tryz.ntmps36
 go_wp2_with fail;refine h.mono ?_;rintro e w1 ⟨rfl,b⟩;go_wp2_with fail;go_ret;exact ⟨rfl,b⟩
theorem DA (args:Array Value) (w:World):(callFunc 37 args).run Tryz.prog w=.ok (.enter 37 args) w:=by simp [callFunc,Tryz.func37];rfl
theorem Aw (A:Option Addr) (m c q K:Nat) (Ac:Option Addr) (d:Nat) (w:World) (h:w.cell? ⟨q,1,none⟩=some (.slice Ac K d)):Rt 37 #[.slice A m c,.pointer (some ⟨q,0,none⟩)] w (.bool (decide (m≠K))):=by
 by_cases a:m=K
 ·have e:((m:Int) != (K:Int))=false:=by simp [a]
  have b:Hid (decide (m≠K)=false):=aa (by simp [a])
  clear a
  go_enter Tryz.func37,Tryz.ntmps37
  go_wp2_with fail;go_ret;exact ⟨by rw [b.out];rfl,by go_grown⟩
 have e:((m:Int) != (K:Int))=true:=by simp;omega
 have b:Hid (decide (m≠K)=true):=aa (by simp [a])
 clear a
 go_enter Tryz.func37,Tryz.ntmps37
 go_wp2_with fail;go_ret;exact ⟨by rw [b.out];rfl,by go_grown⟩
def iY (w:World) (u v z:Value):World:=w.alloc (.cells #[u,v,z] 30)
theorem mF (w:World) (u v z:Value):(iY w u v z).heap[w.heap.size]?=some (.cells #[u,v,z] 30 (0,0)):=heap_alloc_new ..
theorem oB (w:World) (u v z:Value):Bl w (iY w u v z):=by unfold iY;go_grown
theorem rB (a:List CsL) (p:List (Int×Int)→Bool):(lZ a).any p=a.any fun x=>p x.L:=by simp [lZ,List.any_map,Function.comp_def]
theorem kp {a:List CsL} {k:Nat} (h:k<a.length):a.getD k noCs∈a:=by
 rw [zZ,zX h];exact List.getElem_mem h
theorem j9 (Ar:Option Addr) (R cr:Nat) (Ac:Option Addr) (K X:Nat) (Ag:Option Addr) (G:Nat) (a:List CsL) (w:World) (hn:a.length≤1048576) (hx:∀ x∈a,x.L.length≤1048576) (hZ:eQ w Ag G a) :
  Rt 13 #[.agg #[.slice Ar R cr,.slice Ac K X,.slice Ag a.length G]] w (errV (bI R K (lZ a))):=by
 have n:=oB w (.slice Ar R cr) (.slice Ac K X) (.slice Ag a.length G);have hb:=mF w (.slice Ar R cr) (.slice Ac K X) (.slice Ag a.length G);obtain ⟨W,hW⟩:=ax (iY w (.slice Ar R cr) (.slice Ac K X) (.slice Ag a.length G));rw [hW] at n hb;unfold iY at hW;obtain ⟨k0,k1,k2,-,-,-⟩:=de hb;have hq:w.heap.size<W.heap.size:=(zY hb).1;have f:=zM 37 #[.pointer (some ⟨w.heap.size,0,none⟩)] (fun x=>decide (x.L.length≠K)) DA Ag G a W hn (hZ.later n) fun x w' _ hB=>Aw x.A x.L.length x.c w.heap.size K Ac X w' (aL hB hq k1)
 have t:=aa n;have HZ:=aa (hZ.later n);have HX:=aa hx;have HA:=aa (rB a fun L=>decide (L.length≠K))
 have HL:=aa (eb a);obtain ⟨N,hN⟩:=ax a.length;rw [hN] at f hW k2 hn ⊢;have V:=aa hN;have hNI:(N:Int)≤1048576:=by omega
 clear hx hZ n hb hN
 by_cases Y:N=R
 case neg =>
  have t1:((N:Int) != (R:Int))=true:=by simp;omega
  have O:Hid (bI R K (lZ a)=3):=nH (by rw [HL.out,V.out];exact Y)
  clear Y f
  go_enter Tryz.func13,Tryz.ntmps13
  go_wp2_with fail;go_ret;exact ⟨by rw [O.out];rfl,t.out⟩
 have U:Hid ((lZ a).length=R):=by show _=_;rw [HL.out,V.out];exact Y
 have t1:((N:Int) != (R:Int))=false:=by simp [Y]
 clear Y;cases h2:a.any (fun x=>decide (x.L.length≠K)) with
 | true =>
  rw [h2] at f;have O:Hid (bI R K (lZ a)=3):=nI U.out (by rw [HA.out];exact h2)
  clear h2
  go_enter Tryz.func13,Tryz.ntmps13
  go_wp2_with fail;refine f.mono ?_;rintro e w1 ⟨rfl,d⟩;go_wp2_with fail;go_ret;exact ⟨by rw [O.out];rfl,ae t.out d⟩
 | false =>
  rw [h2] at f;have O:Hid (bI R K (lZ a)=if (lZ a).any im=true then 1 else 0):=nG U.out (by rw [HA.out];exact h2)
  have Q:=aa (rB a im);clear h2
  go_enter Tryz.func13,Tryz.ntmps13
  go_wp2_with fail;refine f.mono ?_;rintro e w1 ⟨rfl,d⟩;have c2:=aL d hq k2;have hq1:w.heap.size<w1.heap.size:=zW hq d.size;have HZ1:=aa (HZ.out.later d);have P:=aa (ae t.out d);clear d f k0 k1 k2;go_wp2_with fail
  go_loopg [24] N (fun gg s24 wr => ∃ (k:Nat),k≤N∧gg=N-k∧s24=.int .i64 k∧Hid (∀ i,i<k→im (a.getD i noCs).L=false)∧Hid (Bl w1 wr))
  case atStart=>exact ⟨0,zU,rfl,rfl,aa fun i p=>absurd p (Nat.not_lt_zero _),aa (zS)⟩
  case round =>
   obtain ⟨k,hk,rfl,rfl,HO,HB⟩:=hrel
   by_cases hlt:k<N
   ·have q:k<a.length:=by rw [V.out];exact hlt
    have hki:(k:Int)<(N:Int):=by omega
    obtain ⟨hcg,hcg2,h0 | ⟨b,o,rfl,hbl,Lt⟩⟩:=HZ1.out.later HB.out
    ·rw [h0] at q;simp at q
    obtain ⟨e1,e2⟩:=Lt k q;have M:=HX.out _ (kp q);have u:=aa fun (h:im (a.getD k noCs).L=true)=>(O.out.trans (if_pos (Q.out.trans (List.any_eq_true.2 ⟨_,kp q,h⟩))))
    have F:Hid (im (a.getD k noCs).L=false→∀ i,i<k+1→im (a.getD i noCs).L=false):=fun h i p=>by
     by_cases e:i=k
     ·subst e;exact h
     exact HO.out i (by omega)
    generalize a.getD k noCs=x at e1 e2 M u F;obtain ⟨g,xA,xc⟩:=x;simp only at e1 e2 M u F;obtain ⟨m,hm⟩:=ax g.length;rw [hm] at e1 M;have E:=aa hm;have T:=aa e2;have hmI:(m:Int)≤1048576:=by omega
    have hNg:(N:Int)≤(G:Int):=by have:=V.out;omega
    clear Lt hm e2 HO;go_wp2_with fail
    go_loopg [30] m (fun gg s30 wi => ∃ (c:Nat),c≤m∧gg=m-c∧s30=.int .i64 c∧Hid (∀ i,i<c→good (g.getD i noC).1 (g.getD i noC).2=true)∧Hid (Bl w1 wi)∧Hid (dt wi xA xc g))
    case atStart=>exact ⟨0,zU,rfl,rfl,aa fun i p=>absurd p (Nat.not_lt_zero _),HB,T⟩
    case round =>
     obtain ⟨c,hc,rfl,rfl,HG,v,HV⟩:=hrel
     by_cases Lu:c<m
     ·have r:c<g.length:=by rw [E.out];exact Lu
      have hci:(c:Int)<(m:Int):=by omega
      obtain ⟨hv1,hv2,h0 | ⟨b2,o2,rfl,H⟩⟩:=HV.out
      ·rw [h0] at r;simp at r
      obtain ⟨x0,x1⟩:=H.2 c r;have j:=H.1;have s:=ku r;have l:Hid (good (g.getD c noC).1 (g.getD c noC).2=false→bI R K (lZ a)=1):=fun h=>u.out (List.any_eq_true.2 ⟨_,s,by rw [h];rfl⟩)
      have C:Hid (good (g.getD c noC).1 (g.getD c noC).2=true→∀ i,i<c+1→good (g.getD i noC).1 (g.getD i noC).2=true):=fun h i p=>by
       by_cases e:i=c
       ·subst e;exact h
       exact HG.out i (by omega)
      have hmc:(m:Int)≤(xc:Int):=by have:=E.out;omega
      generalize (g.getD c noC).1=va at x0 l C;generalize (g.getD c noC).2=vb at x1 l C;obtain ⟨y,hy⟩:=ax (wr.alloc (.cells #[.int .i64 va,.int .i64 vb] 40));have I:Bl wr y:=by rw [←hy];go_grown
      have Lw:y.heap[wr.heap.size]?=some (.cells #[.int .i64 va,.int .i64 vb] 40 (0,0)):=by rw [←hy];exact heap_alloc_new ..
      obtain ⟨y0,y1,-,-⟩:=bP Lw;have S:=aa (ae v.out I);have HVy:=aa (HV.out.later I);clear Lw I H s HG HV v;cases hg:good va vb with
      | true =>
       have J:=ep hg y;have D:=aa (C.out hg);clear hg;go_wp2_with fail;refine J.mono ?_;rintro e w2 ⟨rfl,j⟩;have HB2:=aa (ae S.out j);have HV2:=aa (HVy.out.later j);clear j;go_wp2_with fail
       go_roundg (m-(c+1))
       case measure=>omega
       case rel=>exact ⟨c+1,by omega,rfl,by go_num,D,HB2,HV2⟩
      | false =>
       have J:=Db hg y;have B:=aa (l.out hg);clear hg;go_wp2_with fail;refine J.mono ?_;rintro e w2 ⟨rfl,j⟩;go_wp2_with fail;go_ret;exact ⟨by rw [B.out];rfl,ae (ae P.out S.out) j⟩
     have Z:c=m:=by omega
     have D:Hid (im g=false):=List.any_eq_false.2 fun z hz=>by
      obtain ⟨i,p,rfl⟩:=List.getElem_of_mem hz;have:=HG.out i (by rw [Z,←E.out];exact p)
      rw [zZ,zX p,Option.getD_some] at this;rw [this]
      decide
     have HO2:=aa (F.out D.out);subst Z;clear HG HV T;go_wp2_with fail
     go_roundg (N-(k+1))
     case measure=>omega
     case rel=>exact ⟨k+1,by omega,rfl,by go_num,HO2,v⟩
   have Lv:k=N:=by omega
   have B:Hid (bI R K (lZ a)=0):=O.out.trans (if_neg (by
    rw [Q.out,Bool.not_eq_true];refine List.any_eq_false.2 fun z hz=>?_
    obtain ⟨i,p,rfl⟩:=List.getElem_of_mem hz;have:=HO.out i (by rw [Lv,←V.out];exact p)
    rw [zZ,zX p,Option.getD_some] at this;rw [this]
    decide))
   subst Lv;go_wp2_with fail;go_ret;exact ⟨by rw [B.out];rfl,ae P.out HB.out⟩
end Go.Proofs.YthlhjjabkgpenaaGreatDoor
