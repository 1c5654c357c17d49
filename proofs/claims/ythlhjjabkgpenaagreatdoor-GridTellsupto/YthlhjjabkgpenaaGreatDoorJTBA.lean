/- Grids: cells in rows, -/
import Derived.Test.YthlhjjabkgpenaaGreatDoorJTAZ
namespace Go.Proofs.YthlhjjabkgpenaaGreatDoor
open ChangeShapes WideShapes ChangeAt RowKit
set_option maxRecDepth 99999
set_option maxHeartbeats 0
def ss (f:Nat→Nat→Int×Int) (R C:Nat):List (List (Int×Int)):=(List.range R).map fun r=>(List.range C).map (f r)
theorem mN (f:Nat→Nat→Int×Int) (R C:Nat):(ss f R C).length=R:=by simp [ss]
def im (L:List (Int×Int)):Bool:=L.any fun x => !good x.1 x.2
def bI (r c:Nat) (Z:List (List (Int×Int))):Int:=if Z.length=r then (if Z.any (fun L=>decide (L.length≠c))=true then 3 else if Z.any im=true then 1 else 0) else 3
theorem nH {r c:Nat} {Z:List (List (Int×Int))} (h:Z.length≠r):bI r c Z=3:=by unfold bI;rw [if_neg h]
theorem nI {r c:Nat} {Z:List (List (Int×Int))} (h:Z.length=r) (a:Z.any (fun L=>decide (L.length≠c))=true):bI r c Z=3:=by unfold bI;rw [if_pos h,if_pos a]
theorem nG {r c:Nat} {Z:List (List (Int×Int))} (h:Z.length=r) (a:Z.any (fun L=>decide (L.length≠c))=false):bI r c Z=if Z.any im=true then 1 else 0:=by unfold bI;rw [if_pos h,if_neg (by rw [a];decide)]
theorem ir {r c:Nat} {Z:List (List (Int×Int))} (h:bI r c Z=0):Z.length=r∧(∀ L∈Z,L.length=c)∧∀ L∈Z,jL L:=by
 by_cases a:Z.length=r
 ·cases h2:Z.any (fun L=>decide (L.length≠c)) with
  | true=>rw [nI a h2] at h;omega
  | false =>
   rw [nG a h2] at h;have d:Z.any im=false:=by
    cases e:Z.any im with
    | true=>rw [e] at h;simp at h
    | false=>rfl
   refine ⟨a,fun L b=>?_,fun L b x j=>?_⟩
   ·have:=List.any_eq_false.1 h2 L b
    simpa using this
   have f:=List.any_eq_false.1 d L b;have g:im L=false:=by simpa using f
   have i:=List.any_eq_false.1 g x j
   show good x.1 x.2=true
   simpa using i
 rw [nH a] at h;omega
theorem kS {Z:List (List (Int×Int))} {i:Nat} (h:i<Z.length):Z.getD i []∈Z:=by
 rw [zZ,zX h];exact List.getElem_mem h
theorem ku {L:List (Int×Int)} {i:Nat} (h:i<L.length):L.getD i noC∈L:=by
 rw [zZ,zX h];exact List.getElem_mem h
def K4 (Z:List (List (Int×Int))) (r c:Nat):List (List (Int×Int)):=ss (fun k i=>(Z.getD i []).getD k noC) c r
structure CsL where
 L:List (Int×Int)
 A:Option Addr
 c:Nat
def noCs:CsL:=⟨[],none,0⟩
def lZ (zz:List CsL):List (List (Int×Int)):=zz.map CsL.L
theorem eb (a:List CsL):(lZ a).length=a.length:=by simp [lZ]
theorem kA (a:List CsL) (k:Nat):(lZ a).getD k []=(a.getD k noCs).L:=by
 rw [zZ,zZ,lZ,List.getElem?_map];cases a[k]? <;> rfl
def eQ (w:World) (A:Option Addr) (cap:Nat) (zz:List CsL):Prop:=zz.length≤cap∧cap≤9223372036854775807∧(zz=[]∨∃ b o,A=some ⟨b,o,none⟩∧b<w.heap.size∧∀ k,k<zz.length→w.cell? ⟨b,o+k,none⟩=some (.slice (zz.getD k noCs).A (zz.getD k noCs).L.length (zz.getD k noCs).c)∧dt w (zz.getD k noCs).A (zz.getD k noCs).c (zz.getD k noCs).L)
theorem eQ.later {w w':World} {A:Option Addr} {cap:Nat} {j:List CsL} (h:eQ w A cap j) (c:Bl w w'):eQ w' A cap j:=by
 obtain ⟨e,d,a | ⟨b,o,a,f,g⟩⟩:=h
 ·exact ⟨e,d,Or.inl a⟩
 exact ⟨e,d,Or.inr ⟨b,o,a,zW f c.size,fun k i=>⟨(c.cell (p:=⟨b,o+k,none⟩) f).trans (g k i).1,(g k i).2.later c⟩⟩⟩
theorem eQ.nil (w:World) (A:Option Addr) (cap:Nat) (h:cap≤9223372036854775807):eQ w A cap []:=⟨zU,h,Or.inl rfl⟩
def IT (w:World) (B:Nat) (A:Option Addr) (cap:Nat) (zz:List CsL):Prop := ∀ w9:World,w.heap.size≤w9.heap.size→(∀ b,B≤b→b<w.heap.size→w9.heap[b]?=w.heap[b]?)→eQ w9 A cap zz
def ps (w:World) (g0 R C r B:Nat) (f:Nat→Nat→Int×Int):Prop := ∃ gs:Nat→Nat,dN w g0 R 33 (fun i=>if i<r then .slice (some ⟨gs i,0,none⟩) C C else .slice none 0 0)∧B≤g0∧∀ i,i<r→B≤gs i∧da w (gs i) ((List.range C).map (f i))
def iO (f:Nat→Int×Int) (C c:Nat):List (Int×Int):=(List.range C).map fun j=>if j<c then f j else (0,0)
theorem qQ (f:Nat→Int×Int) (C c:Nat):(iO f C c).length=C:=by simp [iO]
theorem xo (f:Nat→Int×Int) (C:Nat):iO f C 0=List.replicate C (0,0):=by
 refine List.ext_getElem (by simp [iO]) fun i a b=>?_
 simp [iO]
theorem B7 (f:Nat→Int×Int) (C:Nat):iO f C C=(List.range C).map f:=List.map_congr_left fun _ a=>if_pos (List.mem_range.1 a)
theorem B8 (f:Nat→Int×Int) {C c:Nat}:(iO f C c).set c (f c)=iO f C (c+1):=by
 refine List.ext_getElem (by simp [iO]) fun i b d=>?_
 rw [List.getElem_set]
 by_cases e:c=i
 ·subst e
  simp [iO]
 rw [if_neg e];simp only [iO,List.getElem_map,List.getElem_range]
 by_cases a:i<c
 ·rw [if_pos a,if_pos (by omega)]
 rw [if_neg a,if_neg (by omega)]
def jU (w:World) (g0 gr R C r c B:Nat) (f:Nat→Nat→Int×Int):Prop := ∃ gs:Nat→Nat,dN w g0 R 33 (fun i=>if i<r then .slice (some ⟨gs i,0,none⟩) C C else if i=r then .slice (some ⟨gr,0,none⟩) C C else .slice none 0 0)∧B≤g0∧B≤gr∧(∀ i,i<r→B≤gs i∧gs i<gr∧da w (gs i) ((List.range C).map (f i)))∧da w gr (iO (f r) C c)
theorem ng:(40:Nat)≠33:=by decide
theorem da.off {w:World} {g n b:Nat} {L:List (Int×Int)} {f:Nat→Value} (h:da w b L) (d:dN w g n 33 f):b≠g:=by
 obtain ⟨a,c,-⟩:=h;exact d.off c ng
section
variable {w w':World} {g0 gr R C r c B:Nat} {f:Nat→Nat→Int×Int}
theorem ps.start (w:World) (R C:Nat) (f:Nat→Nat→Int×Int):ps (w.alloc (.cells (madeCells #[.slice none 0 0] R) 33)) w.heap.size R C 0 w.heap.size f :=
 ⟨fun _=>0,by simpa using dN.made w R 33 (.slice none 0 0),zT,fun _ a=>absurd a (Nat.not_lt_zero _)⟩
theorem ps.next (h:ps w g0 R C r B f) (n:B≤w.heap.size):jU ((w.alloc (.cells (madeCells #[.int .i64 0,.int .i64 0] (C*2)) 40)).setCell ⟨g0,r,none⟩ (.slice (some ⟨w.heap.size,0,none⟩) C C)) g0 w.heap.size R C r 0 B f:=by
 obtain ⟨gs,l,m,e⟩:=h;have a:∀ b,b<w.heap.size→(w.alloc (.cells (madeCells #[.int .i64 0,.int .i64 0] (C*2)) 40)).heap[b]?=w.heap[b]?:=fun b o=>Below.heap_alloc _ _ _ o
 have k:=l.same (a _ l.lt);refine ⟨gs,k.set fun j p=>?_,m,n,fun i g=>⟨(e i g).1,(e i g).2.lt,?_⟩,?_⟩
 ·by_cases d:j<r
  ·rw [if_pos d,if_neg (by omega),if_pos d]
  rw [if_neg d,if_neg d]
 ·have c:=(e i g).2.same (a _ (e i g).2.lt)
  exact c.same (ao _ _ _ _ _ (c.off k))
 have c:=lc w C;rw [xo];exact c.same (ao _ _ _ _ _ (c.off k))
theorem jU.cells (h:jU w g0 gr R C r c B f) (g:r<R) (e:c<C):w.cell? ⟨g0,r,none⟩=some (.slice (some ⟨gr,0,none⟩) C C)∧g0<w.heap.size∧gr<w.heap.size∧(∃ v,w.cell? ⟨gr,c*2,none⟩=some v)∧(∃ v,w.cell? ⟨gr,c*2+1,none⟩=some v)∧w.frozen? ⟨gr,c*2,none⟩=false∧w.frozen? ⟨gr,c*2+1,none⟩=false:=by
 obtain ⟨gs,b,i,j,l,a⟩:=h;have k:=b.cell g;rw [if_neg (Nat.lt_irrefl _),if_pos rfl] at k;have d:=a.at (k:=c) (by rw [qQ];exact e)
 exact ⟨k,b.lt,a.lt,⟨_,d.1⟩,⟨_,d.2⟩,a.frozen _,a.frozen _⟩
theorem jU.keep (h:jU w g0 gr R C r c B f) (e:∀ b,b<w.heap.size→B≤b→w'.heap[b]?=w.heap[b]?):jU w' g0 gr R C r c B f:=by
 obtain ⟨gs,g,j,k,a,l⟩:=h;exact ⟨gs,g.same (e _ g.lt j),j,k,fun i d=>⟨(a i d).1,(a i d).2.1,(a i d).2.2.same (e _ (a i d).2.2.lt (a i d).1)⟩,l.same (e _ l.lt k)⟩
theorem jU.push (h:jU w g0 gr R C r c B f) (p:c<C):jU ((w.setCell ⟨gr,c*2,none⟩ (.int .i64 (f r c).1)).setCell ⟨gr,c*2+1,none⟩ (.int .i64 (f r c).2)) g0 gr R C r (c+1) B f:=by
 obtain ⟨gs,g,n,o,a,j⟩:=h;have m:∀ b,b≠gr→((w.setCell ⟨gr,c*2,none⟩ (.int .i64 (f r c).1)).setCell ⟨gr,c*2+1,none⟩ (.int .i64 (f r c).2)).heap[b]?=w.heap[b]?:=fun b l=>(ao _ _ _ _ _ l).trans (ao _ _ _ _ _ l)
 refine ⟨gs,g.same (m _ fun e=>(j.off g) e.symm),n,o,fun i d=>⟨(a i d).1,(a i d).2.1,(a i d).2.2.same (m _ (Nat.ne_of_lt (a i d).2.1))⟩,?_⟩
 have k:=j.set (x:=c) (by rw [qQ];exact p) (f r c).1 (f r c).2
 rw [B8] at k;exact k
theorem jU.done (h:jU w g0 gr R C r C B f):ps w g0 R C (r+1) B f:=by
 obtain ⟨gs,g,j,k,c,d⟩:=h;rw [B7] at d;refine ⟨fun i=>if i<r then gs i else gr,?_,j,fun i l=>?_⟩
 ·have e:(fun i:Nat=>if i<r+1 then Value.slice (some ⟨if i<r then gs i else gr,0,none⟩) C C else .slice none 0 0)=fun i=>if i<r then .slice (some ⟨gs i,0,none⟩) C C else if i=r then .slice (some ⟨gr,0,none⟩) C C else .slice none 0 0:=by
   funext i
   by_cases a:i<r
   ·rw [if_pos a,if_pos a,if_pos (by omega)]
   by_cases b:i=r
   ·rw [if_neg a,if_neg a,if_pos b,if_pos (by omega)]
   rw [if_neg a,if_neg a,if_neg b,if_neg (by omega)]
  rw [e];exact g
 by_cases a:i<r
 ·simp only [if_pos a]
  exact ⟨(c i a).1,(c i a).2.2⟩
 have b:i=r:=by omega
 subst b;simp only [if_neg a];exact ⟨k,d⟩
theorem ps.rows (h:ps w g0 R C R B f) (o:R≤1048576) (n:C≤1048576):∃ zz,IT w B (some ⟨g0,0,none⟩) R zz∧zz.length=R∧lZ zz=ss f R C:=by
 obtain ⟨gs,b,l,c⟩:=h;have d:((List.range R).map fun i=>(⟨(List.range C).map (f i),some ⟨gs i,0,none⟩,C⟩:CsL)).length=R:=by simp
 refine ⟨(List.range R).map fun i=>⟨(List.range C).map (f i),some ⟨gs i,0,none⟩,C⟩,fun w9 m g=>⟨by rw [d];exact zT,by omega,Or.inr ⟨g0,0,rfl,zW b.lt m,fun k a=>?_⟩⟩,d,by simp [lZ,ss]⟩
 rw [d] at a;have e:((List.range R).map fun i=>(⟨(List.range C).map (f i),some ⟨gs i,0,none⟩,C⟩:CsL)).getD k noCs=⟨(List.range C).map (f k),some ⟨gs k,0,none⟩,C⟩:=by simp [List.getD,a]
 rw [e];have j:=(b.same (g _ l b.lt)).cell a;rw [if_pos a] at j;refine ⟨by simpa using j,by simp,by show C≤_;omega,?_⟩
 exact Or.inr ⟨_,_,rfl,((c k a).2.same (g _ (c k a).1 (c k a).2.lt)).celAt⟩
end
theorem Tryz.infoCRow:(Tryz.prog.info? 33).map (fun i=>(i.zero,i.size,i.bytes))=some (some (.slice none 0 0),1,24):=by kernel_rfl
theorem r9 (n:Nat) (f:n≤1048576) (w:World):(Instr.makeSlice 33 (.int .i64 (n:Int)) (.int .i64 (n:Int))).run Tryz.prog w=.ok (.slice (some ⟨w.heap.size,0,none⟩) n n) (w.alloc (.cells (madeCells #[.int .i64 0,.int .i64 0] (n*2)) 40)):=by
 obtain ⟨i0,a,b,c,d⟩:=info_parts Tryz.infoCe;have e:=run_make (P:=Tryz.prog) w 33 40 i0 _ Tryz.underlying33 a b .i64 .i64 n n (by omega) (Int.le_refl _) (by rw [d];omega) (by omega)
 simp only [Int.toNat_natCast,c] at e;exact e
theorem fM {N g j:Nat} {X:Nat→Prop} {w w':World} {v:Value} (h:Kept N X w w') (c:N≤g):Kept N X w (w'.setCell ⟨g,j,none⟩ v) :=
 ⟨h.os,h.tape,h.output,by simpa using h.size,fun k a b=>(ao _ _ _ _ _ (by omega)).trans (h.block k a b)⟩
theorem qU (F:Nat) (cp:Array Value) (f:Nat→Nat→Int×Int) (Inv:World→Prop) (X:Nat→Prop) (R C:Nat) (w:World) (hR:R≤1048576) (hC:C≤1048576)
  (hent:∀ (args:Array Value) (w:World),(callFunc F args).run Tryz.prog w=.ok (.enter F args) w) (hX:∀ b,X b→b<w.heap.size)
  (hI:Inv w) (d:∀ w' w'',Inv w'→Kept w.heap.size (fun _=>False) w' w''→Inv w'')
  (l:∀ r c w',r<R→c<C→Inv w'→w.heap.size≤w'.heap.size→Calls Tryz.prog F (#[.int .i64 (r:Nat),.int .i64 (c:Nat)] ++ cp) w' fun e w''=>e=.returned (.tuple #[.agg #[.int .i64 (f r c).1,.int .i64 (f r c).2],.nilIface])∧Inv w''∧Kept w'.heap.size X w' w'') :
  Calls Tryz.prog 29 #[.int .i64 R,.int .i64 C,.func (.func F) #[] cp] w fun e w'=>(∃ zz,e=.returned (.tuple #[.slice (some ⟨w.heap.size,0,none⟩) R R,.nilIface])∧zz.length=R∧IT w' w.heap.size (some ⟨w.heap.size,0,none⟩) R zz∧lZ zz=ss f R C)∧Inv w'∧Kept w.heap.size X w w':=by
 have hmkR:=run_make_row' (P:=Tryz.prog) 28 33 (.slice none 0 0) 24 Tryz.underlying28 Tryz.infoCRow rfl .i64 .i64 R (by omega) (by omega)
 have hmkC:=r9 C hC;have B:=aa l;have g:=aa d;have HX:=aa hX;have hRI:(R:Int)≤1048576:=by omega
 have hCI:(C:Int)≤1048576:=by omega
 have S:Hid (ps (w.alloc (.cells (madeCells #[.slice none 0 0] R) 33)) w.heap.size R C 0 w.heap.size f):=ps.start w R C f;have L:Hid (Inv (w.alloc (.cells (madeCells #[.slice none 0 0] R) 33))):=d _ _ hI (aq (by go_grown) (zT))
 have N:Hid (Kept w.heap.size X w (w.alloc (.cells (madeCells #[.slice none 0 0] R) 33))):=aq (by go_grown) (zT)
 clear l d hX hI
 go_enter Tryz.func29,Tryz.ntmps29
 go_wp2_with fail
 go_loopg [17] R (fun gg s17 wr => ∃ (k:Nat),k≤R∧gg=R-k∧s17=.int .i64 k∧Hid (ps wr w.heap.size R C k w.heap.size f)∧Hid (Inv wr)∧Hid (Kept w.heap.size X w wr))
 case atStart=>exact ⟨0,zU,rfl,rfl,S,L,N⟩
 case round =>
  clear S L N;obtain ⟨k,hk,rfl,rfl,HS,A,o⟩:=hrel
  by_cases t:k<R
  ·have hki:(k:Int)<(R:Int):=by omega
   have m:=o.out.size;have n:=aa (HS.out.next m);obtain ⟨gs,hV,-,-⟩:=HS.out;have V:=hV.lt;obtain ⟨y,x⟩:=ax (wr.alloc (.cells (madeCells #[.int .i64 0,.int .i64 0] (C*2)) 40));have q:=hV.same (w':=y) (by rw [←x];exact Below.heap_alloc _ _ _ V)
   have y0:=q.cell t;have y1:=q.frozen k;have v:w.heap.size<y.heap.size:=q.lt;rw [x] at n;obtain ⟨z,J⟩:=ax (y.setCell ⟨w.heap.size,k,none⟩ (.slice (some ⟨wr.heap.size,0,none⟩) C C));rw [J] at n;have z0:z.cell? ⟨w.heap.size,k,none⟩=some (.slice (some ⟨wr.heap.size,0,none⟩) C C):=by
    obtain ⟨gs',h1,-⟩:=n.out;have:=h1.cell t;rw [if_neg (Nat.lt_irrefl _),if_pos rfl] at this;exact this
   have hzs:w.heap.size<z.heap.size:=by rw [←J];simpa using v
   have M:Hid (Inv z):=by
    refine g.out wr z A.out ?_;rw [←J,←x];exact fM (aq (by go_grown) m) (zT)
   have O:Hid (Kept w.heap.size X w z):=by
    show Kept ..
    rw [←J,←x];exact fM (o.out.trans (aq (by go_grown) m)) (zT)
   obtain ⟨gr,j⟩:=ax wr.heap.size;rw [j] at n z0 J;simp only [if_neg (Nat.lt_irrefl k)] at y0;have HGr:=aa j;clear hV q HS A o;go_wp2_with fail;clear x J
   go_loopg [30] C (fun gg s30 wi => ∃ (c:Nat),c≤C∧gg=C-c∧s30=.int .i64 c∧Hid (jU wi w.heap.size gr R C k c w.heap.size f)∧Hid (Inv wi)∧Hid (Kept w.heap.size X w wi))
   case atStart=>exact ⟨0,zU,rfl,rfl,n,M,O⟩
   case round =>
    clear n M O z0 hzs y0 y1 v;obtain ⟨c,hc,rfl,rfl,n,A,o⟩:=hrel
    by_cases H:c<C
    ·have hci:(c:Int)<(C:Int):=by omega
     have m:=o.out.size;have s:=B.out k c wr t H A.out m;have Q:Hid (∀ w'',Kept wr.heap.size X wr w''→jU w'' w.heap.size gr R C k c w.heap.size f∧Kept w.heap.size X w w''):=fun w'' h=>⟨n.out.keep fun b hb hB=>h.block b hb fun hx=>by have:=HX.out b hx;omega,o.out.trans ⟨h.os,h.tape,h.output,h.size,fun i hi hx=>h.block i (by omega) hx⟩⟩
     obtain ⟨⟨a,b⟩,I⟩:∃ fv,f k c=fv:=⟨_,rfl⟩;rw [I] at s;simp only at s;have HFv:=aa I;clear I n A o;go_wp2_with fail;refine s.mono ?_;rintro e w1 ⟨rfl,T,U⟩;obtain ⟨G,E⟩:=Q.out w1 U;obtain ⟨y,x⟩:=ax (w1.alloc (.cells #[.int .i64 a,.int .i64 b] 40));have D:Bl w1 y:=by rw [←x];go_grown
     have u:y.heap[w1.heap.size]?=some (.cells #[.int .i64 a,.int .i64 b] 40 (0,0)):=by rw [←x];exact heap_alloc_new ..
     have b0:y.cell? ⟨w1.heap.size,0,none⟩=some (.int .i64 a):=(Lib.cell_of_heap u 0).trans rfl;have b1:y.cell? ⟨w1.heap.size,1,none⟩=some (.int .i64 b):=(Lib.cell_of_heap u 1).trans rfl;have v:w1.heap.size<y.heap.size:=(zY u).1;have p:jU y w.heap.size gr R C k c w.heap.size f:=G.keep fun b hb _=>D.block b hb
     obtain ⟨c0,hg0,V,⟨v1,c1⟩,⟨v2,c2⟩,f1,f2⟩:=p.cells t H;have Lt:w.heap.size≤w1.heap.size:=E.size;have j:w.heap.size≤gr:=by obtain ⟨_,-,-,h,-⟩:=p;exact h
     have hgl1:gr<w1.heap.size:=by obtain ⟨_,-,-,-,-,h⟩:=G;exact h.lt
     obtain ⟨Z,hZ⟩:=ax (((y.setCell ⟨gr,c*2,none⟩ (.int .i64 a)).setCell ⟨gr,c*2+1,none⟩ (.int .i64 b)).drew);have K:Hid (jU Z w.heap.size gr R C k (c+1) w.heap.size f∧Inv Z∧Kept w.heap.size X w Z):=by
      have hp:=p.push H;rw [HFv.out] at hp;have hs:w.heap.size≤y.heap.size:=zV Lt (Nat.le_of_lt v);have W:∀ Y,Kept w.heap.size Y w1 Z:=fun Y=>by
       rw [←hZ];exact (fM (fM (aq D Lt) j) j).trans (aq (by go_grown) (by simpa using hs))
      exact ⟨by rw [←hZ];exact hp.keep fun _ _ _=>rfl,g.out w1 _ T (W _),E.trans (W _)⟩
     clear T U G E D u p s Q;go_wp2_with fail
     go_region
     go_wp2_with fail
     go_roundg (C-(c+1))
     case measure=>omega
     case rel=>exact ⟨c+1,by omega,rfl,by go_num,K⟩
    have hce:c=C:=by omega
    subst hce;have HS2:=aa n.out.done;go_wp2_with fail
    go_roundg (R-(k+1))
    case measure=>omega
    case rel=>exact ⟨k+1,by omega,rfl,by go_num,HS2,A,o⟩
  have hke:k=R:=by omega
  subst hke;have HF:=aa (HS.out.rows hR hC);go_wp2_with fail;go_returns;obtain ⟨zz,h1,h2,h3⟩:=HF.out;exact ⟨⟨zz,rfl,h2,h1,h3⟩,A.out,o.out⟩
def dW (N:List ByteArray) (C:List (Int×Int)) (l:List Nd) (k:Nat):List (Int×Int):=(List.range k).map fun i=>dX N C (aB l i)
section
variable {N:List ByteArray} {C:List (Int×Int)} {l:List Nd} {k i:Nat}
theorem told_len:(dW N C l k).length=k:=by simp [dW]
theorem sk (h:i<k):(dW N C l k).getD i noC=dX N C (aB l i):=by simp [dW,List.getD,h]
theorem Cx:dW N C l (k+1)=dW N C l k ++ [dX N C (aB l k)]:=by simp [dW,List.range_succ]
theorem GY (b:∀ c∈C,oq c):∀ c∈dW N C l k,oq c:=by
 intro c a;simp only [dW,List.mem_map] at a;obtain ⟨i,-,rfl⟩:=a;exact xR N b _
theorem Ew (e:m4 l) (d:k<l.length) (f:iM N l k=false):pE N C (dW N C l k) (l.getD k bH)=dX N C (aB l k)∧rL N (l.getD k bH)=0:=by
 have h:=kK (e k d)
 by_cases g:(l.getD k bH).op=1
 ·obtain ⟨a,b⟩:=ud (N:=N) (C:=C) (T:=dW N C l k) g
  rw [a,b,pm g];exact ⟨rfl,rfl⟩
 by_cases c:(l.getD k bH).op=2
 ·obtain ⟨a,b⟩:=rN (N:=N) (C:=C) (T:=dW N C l k) c
  unfold iM at f;rw [decide_eq_true c,Bool.true_and] at f;have i:=of_decide_eq_false f;rw [a,b,kZ c];unfold CH DK;rw [if_pos (by omega),if_pos (by omega)]
  exact ⟨rfl,rfl⟩
 obtain ⟨a,b⟩:=yV (N:=N) (C:=C) (T:=dW N C l k) (x:=l.getD k bH) (by omega)
 obtain ⟨a1,a2,a3,a4⟩:=eI (e k d) (by omega)
 rw [a,b,kY e d (by omega),sk (by omega),sk (by omega)]
 exact ⟨rfl,rfl⟩
theorem Ev (a:iM N l k=true):rL N (l.getD k bH)=5:=by
 simp only [iM,Bool.and_eq_true,decide_eq_true_eq] at a;rw [(rN (N:=N) (C:=[]) (T:=[]) a.1).2];unfold DK;rw [if_neg (by omega)]
end
theorem rq {w:World} {base:Nat} {v:Value} {T:List (Int×Int)} (h:w.ownsRow base 40 2 v T.length (bw T)):∃ A c,v=.slice A T.length c∧dt w A c T:=by
 by_cases b:0<T.length
 ·obtain ⟨g,c,rfl,-,d,e,f⟩:=sN h b
  exact ⟨_,_,rfl,d,e,Or.inr ⟨g,0,rfl,f.celAt⟩⟩
 have j:T=[]:=List.eq_nil_of_length_eq_zero (by omega)
 subst j
 rcases h.2 with ⟨rfl,_⟩ | ⟨g,cap,a,rfl,n,o,k,i,l,m⟩
 ·exact ⟨none,0,rfl,dt.nil _ _ _ (by omega)⟩
 exact ⟨_,_,rfl,dt.nil _ _ _ (by unfold maxLen at i;omega)⟩
theorem Km {w:World} {n:Nat} (a:w.heap.size=n) (c:Int×Int):∀ j u,(bw [c])[j]?=some u→(w.alloc (.cells #[.int .i64 c.1,.int .i64 c.2] 40)).cell? ((⟨n,0,none⟩:Addr).add j)=some u:=by
 subst a;exact World.news_of_block (cs := #[.int .i64 c.1,.int .i64 c.2]) (t:=40) (fr:=(0,0)) (heap_alloc_new _ _)
theorem CK.later {a q r:Nat} {w w':World} {N:List ByteArray} {C:List (Int×Int)} (h:CK a q r w N C) (b:Bl w w'):CK a q r w' N C:=fun x w'' c=>h x w'' (ae b c)
theorem zK (fn q r:Nat) (S:∀ (args:Array Value) (w:World),(callFunc fn args).run Tryz.prog w=.ok (.enter fn args) w) (N:List ByteArray) (C:List (Int×Int)) (A:Option Addr) (cap:Nat) (l:List Nd) (w:World) (hN:fQ w A cap l) (hl:av l=0) (hC:∀ c∈C,oq c) (Q:CK fn q r w N C) :
  Rt 152 #[.slice A l.length cap,.func (.func fn) #[] #[.pointer (some ⟨q,0,none⟩),.pointer (some ⟨r,0,none⟩)]] w (.tuple #[.agg #[.int .i64 (if missT N (aB l (l.length-1))=true then noC else dX N C (aB l (l.length-1))).1,.int .i64 (if missT N (aB l (l.length-1))=true then noC else dX N C (aB l (l.length-1))).2],errV (if missT N (aB l (l.length-1))=true then 5 else 0)]):=by
 obtain ⟨i0,hi0,hz0,hz1,hz2⟩:=info_parts Tryz.infoCe;obtain ⟨hp,h30,hg,-⟩:=dw hl;obtain ⟨-,-,h1 | ⟨b,o,rfl,hNA⟩⟩:=hN
 ·rw [h1] at hp;simp at hp
 obtain ⟨R,B⟩:=ax ((if missT N (aB l (l.length-1))=true then noC else dX N C (aB l (l.length-1))))
 obtain ⟨E,I⟩:∃ E:Int,(if missT N (aB l (l.length-1))=true then 5 else 0)=E:=⟨_,rfl⟩
 have V:Hid (∀ i,i<l.length→iM N l i=true→R=noC∧E=5):=fun i hi t=>by
  rw [←B,←I,if_pos (tV hl hi t),if_pos (tV hl hi t)];exact ⟨rfl,rfl⟩
 have U:Hid ((∀ i,i<l.length→iM N l i=false)→R=dX N C (aB l (l.length-1))∧E=0):=fun t=>by
  rw [←B,←I,Ga hl t];exact ⟨rfl,rfl⟩
 rw [B,I];have HN:=aa hNA;have HL:=aa hg;have HC:=aa hC;have HA:=aa Q;have Lu:=aa S;obtain ⟨n,hn⟩:=ax l.length;have u:=aa hn;rw [hn] at h30 hp ⊢;have hni:(n:Int)≤30:=by omega
 have hn0:0<(n:Int):=by omega
 clear hl hNA hC Q hg B I hn S
 go_enter Tryz.func152,Tryz.ntmps152
 obtain ⟨W0,K⟩:=ax (w.alloc (.cells #[.int .i64 0,.int .i64 0] 40));have hsW:W0.heap.size=w.heap.size+1:=by rw [←K];simp
 have hBW:Bl w W0:=by rw [←K];exact (zS).alloc (zT) _
 have Lt:=aa hBW;have hA0:W0.heap[w.heap.size]?=some (.cells #[.int .i64 0,.int .i64 0] 40 (0,0)):=by rw [←K];exact heap_alloc_new _ _
 have Z:=aa hA0;have z:=aa hsW;clear hBW hA0 hsW
 go_wp2_with (at_make;refine wpList_make_own _ rfl _ _ 33 rfl (w.heap.size+1) 40 i0 _ 2 Tryz.underlying33 hi0 hz0 hz1 _ _ _ n rfl rfl rfl ?qb1 ?qb2 ?qb3 ?_)
 case qb1=>rw [hz2];omega
 case qb2=>unfold maxLen;omega
 case qb3=>rw [z.out];exact zT
 intro w1 G d;have hB1:Bl W0 w1:=⟨d.os,d.tape,d.output,d.size,fun k hk=>d.block k hk (by simp)⟩
 have HB1:=aa hB1;have HO1:=aa G;clear G d hB1 K;go_wp2_with fail
 go_loopg [6,16] n (fun g s6 s16 wr => ∃ (k:Nat),k≤n∧g=n-k∧s16=.int .i64 k∧wr.ownsRow (w.heap.size+1) 40 2 s6 (dW N C l k).length (bw (dW N C l k))∧(∀ j,j<k→iM N l j=false)∧Bl W0 wr)
 case atStart=>exact ⟨0,zU,rfl,rfl,HO1.out,fun j hj=>absurd hj (Nat.not_lt_zero j),HB1.out⟩
 case round =>
  obtain ⟨k,hk,rfl,rfl,F,hms,J⟩:=hrel;obtain ⟨At,ct,rfl,P⟩:=rq F;have HO:=aa F;have Lv:=aa hms;have HW:=aa J;have O:=aa P;have T:=aa (ae Lt.out J);have hsz:=J.size;clear F hms J P
  by_cases M:k<n
  ·have hki:(k:Int)<(n:Int):=by omega
   obtain ⟨x0,x1,x2,x3,x4⟩:=(HN.out.later T.out).nd (k:=k) (by rw [u.out];exact M)
   have hbl:b<w.heap.size:=HN.out.1;have hgk:=HL.out k (by rw [u.out];exact M)
   have a:=fun w' (hb:Bl wr w')=>B4 fn q r Lu.out N C (dW N C l k) At ct (l.getD k bH) w' (by rw [told_len];exact hgk) (by rw [told_len];omega) (O.out.later hb) (GY HC.out) (HA.out.later (ae T.out hb))
   rw [told_len] at a ⊢;obtain ⟨x,hx⟩:=ax (l.getD k bH);have HX:=aa hx;rw [hx] at x0 x1 x2 x3 x4 a;rw [fJ] at a;clear hx hgk;cases t:iM N l k
   ·obtain ⟨e1,W⟩:=Ew (C:=C) HL.out (by rw [u.out];exact M) t
    rw [HX.out] at e1 W;rw [e1,W,errV_zero] at a;obtain ⟨c,Y⟩:=ax (dX N C (aB l k));have HCv:=aa Y;have HM:=aa t;rw [Y] at a;clear e1 W Y t;go_wp2_with fail;refine (a _ (by go_grown)).mono ?_
    rintro e w2 ⟨rfl,D⟩;have f:Bl wr w2:=ae (by go_grown) D
    have p:=aa (ae HW.out f);have Lw:Hid (w2.ownsRow (w.heap.size+1) 40 2 (.slice At k ct) k (bw (dW N C l k))):=by have h:=ar HO.out f;rw [told_len] at h;exact h
    have hz2':=f.size;clear D f a
    go_wp2_with (at_builtin;refine wpList_append_own _ rfl _ _ 33 rfl (w.heap.size+1) 40 i0 _ 2 16 Tryz.underlying33 hi0 hz0 hz1 hz2 rfl (by decide) _ k _ rfl (ar Lw.out ?qc0) ⟨w2.heap.size+1,0,none⟩ 1 1 (bw [c]) rfl rfl ?qc1 (vh _) ?qc2 ?qc3 ?qc4 ?_)
    case qc0=>go_grown
    case qc1=>exact Km (by simp) c
    case qc2=>unfold maxLen;omega
    case qc3=>omega
    case qc4=>have:=z.out;simp;omega
    intro v4 w4 H s _;have HB4:Hid (Bl W0 w4):=((p.out.alloc p.out.size _).alloc (by have:=p.out.size;simp;omega) _).grown s (by have:=p.out.size;simp;omega) (fun j hj=>by have h1:=(Lw.out.lt j hj).1;have h2:=z.out;omega)
    have HO4:Hid (w4.ownsRow (w.heap.size+1) 40 2 v4 (dW N C l (k+1)).length (bw (dW N C l (k+1)))):=by
     show World.ownsRow ..
     rw [Cx,cellsC_append,List.length_append,told_len,HCv.out];exact H
    clear H s;go_wp2_with fail
    go_roundg (n-(k+1))
    case measure=>omega
    case rel=>exact ⟨k+1,by omega,rfl,by go_num,HO4.out,fun j hj=>by rcases Nat.lt_succ_iff_lt_or_eq.1 hj with h | h;exact Lv.out j h;rw [h];exact HM.out,HB4.out⟩
   have W:=Ev (N:=N) (l:=l) (k:=k) t;rw [HX.out] at W;rw [W,aj (by decide)] at a
   obtain ⟨B,I⟩:=V.out k (by rw [u.out];exact M) t
   have HR:=aa B;have HE:=aa I;obtain ⟨c,Y⟩:=ax (pE N C (dW N C l k) x);rw [Y] at a;clear W Y t B I;go_wp2_with fail;refine (a _ (by go_grown)).mono ?_
   rintro e w2 ⟨rfl,D⟩;have f:Bl wr w2:=ae (by go_grown) D
   have p:=aa (ae HW.out f);have hz2':=f.size;have y:=(p.out.block w.heap.size (by have:=z.out;omega)).trans Z.out
   have r1:w.heap.size<w2.heap.size:=(zY y).1;have r2:w2.cell? ⟨w.heap.size,0,none⟩=some (.int .i64 0):=by simp [World.cell?,y]
   have r3:w2.cell? ⟨w.heap.size,1,none⟩=some (.int .i64 0):=by simp [World.cell?,y]
   have rf0:w2.frozen? ⟨w.heap.size,0,none⟩=false:=by simp [World.frozen?,y]
   have rf1:w2.frozen? ⟨w.heap.size,1,none⟩=false:=by simp [World.frozen?,y]
   clear y;clear D f a;go_wp2_with fail;refine bodyPost_ret (v:=.tuple #[.agg #[.int .i64 R.1,.int .i64 R.2],errV E]) (by rw [HR.out,HE.out];simp [results,Tryz.results152,go_sem,r2,r3,r1,noC,aj]) rfl ⟨rfl,?_⟩
   have hf:=ae Lt.out p.out
   first | exact ((hf.setCell (zT) _).setCell (zT) _).alloc (by have:=hf.size;simp;omega) _ | exact (((hf.alloc hf.size _).setCell (zT) _).setCell (zT) _)
  have hke:k=n:=by omega
  subst hke;obtain ⟨B,I⟩:=U.out (fun i hi=>Lv.out i (by rw [←u.out];exact hi))
  have HE:=aa I;have L:(dW N C l k).length=k:=told_len;obtain ⟨-,-,h0 | ⟨g,og,rfl,X⟩⟩:=O.out
  ·rw [h0] at L;simp at L;omega
  obtain ⟨y0,y1⟩:=X.2 (k-1) (by rw [told_len];omega)
  have hgl:=X.1;rw [sk (by omega)] at y0 y1
  rw [u.out] at B;rw [←B] at y0 y1;have y:=(HW.out.block w.heap.size (by have:=z.out;omega)).trans Z.out
  have r1:w.heap.size<wr.heap.size:=(zY y).1;have r2:wr.cell? ⟨w.heap.size,0,none⟩=some (.int .i64 0):=by simp [World.cell?,y]
  have r3:wr.cell? ⟨w.heap.size,1,none⟩=some (.int .i64 0):=by simp [World.cell?,y]
  have rf0:wr.frozen? ⟨w.heap.size,0,none⟩=false:=by simp [World.frozen?,y]
  have rf1:wr.frozen? ⟨w.heap.size,1,none⟩=false:=by simp [World.frozen?,y]
  obtain ⟨m,t⟩:=ax (k-1);rw [t] at y0 y1;have hsub:(k:Int)-1=(m:Int):=by omega
  have hmk:(m:Int)<(k:Int):=by omega
  rw [L];clear y X B I L t;go_wp2_with fail;refine bodyPost_ret (v:=.tuple #[.agg #[.int .i64 R.1,.int .i64 R.2],errV E]) (by rw [HE.out];simp [results,Tryz.results152,go_sem,r2,r3,errV_zero]) rfl ⟨rfl,?_⟩
  exact (T.out.setCell (zT) _).setCell (zT) _
theorem vF (args:Array Value) (w:World):(callFunc 153 args).run Tryz.prog w=.ok (.enter 153 args) w:=by simp [go_sem]
theorem FC {l:List Nd} {N:List ByteArray} {C:List (Int×Int)} (h:av l≠0):lK l N C=av l∧pN l N C=noC:=by
 have e:lK l N C=av l:=by unfold lK;rw [if_pos h]
 exact ⟨e,by unfold pN;rw [e,if_neg h]⟩
theorem ID {l:List Nd} {N:List ByteArray} {C:List (Int×Int)} (h:av l=0) (a:dH N C≠0):lK l N C=dH N C∧pN l N C=noC:=by
 have e:lK l N C=dH N C:=by unfold lK;rw [if_neg (by simpa using h),if_pos a]
 exact ⟨e,by unfold pN;rw [e,if_neg a]⟩
theorem zn {l:List Nd} {N:List ByteArray} {C:List (Int×Int)} (h:av l=0) (a:dH N C=0):lK l N C=(if missT N (aB l (l.length-1))=true then 5 else 0)∧pN l N C=(if missT N (aB l (l.length-1))=true then noC else dX N C (aB l (l.length-1))):=by
 have e:lK l N C=(if missT N (aB l (l.length-1))=true then 5 else 0):=by unfold lK;rw [if_neg (by simpa using h),if_neg (by simpa using a)]
 refine ⟨e,?_⟩;unfold pN;rw [e];cases missT N (aB l (l.length-1))
 ·rfl
 rfl
theorem CD (A:Option Addr) (cap:Nat) (l:List Nd) (An:Option Addr) (y:Nat) (N:List ByteArray) (Ac:Option Addr) (u:Nat) (C:List (Int×Int)) (w:World) (O:fQ w A cap l) (P:k9 w An y N) (M:dt w Ac u C) :
  Calls Tryz.prog 128 #[.slice A l.length cap,.slice An N.length y,.slice Ac C.length u] w fun e w'=>e=.returned (.tuple #[.agg #[.int .i64 (pN l N C).1,.int .i64 (pN l N C).2],errV (lK l N C)])∧Bl w w':=by
 have b:=fun w' (G:Bl w w')=>nB A cap l w' (O.later G)
 by_cases o:av l=0
 case neg =>
  obtain ⟨z,B⟩:=FC (N:=N) (C:=C) o;rw [z,B];rw [aj o] at b ⊢;unfold noC;clear o z B O P M
  go_enter Tryz.func128,Tryz.ntmps128
  go_wp2_with fail;refine (b _ (by go_grown)).mono ?_
  rintro e s ⟨rfl,a⟩;have c:Hid (Bl w s):=ae (by go_grown) a
  obtain ⟨T,hbf⟩:=cB a;have hz:=di a
  simp at hz
  clear a b;go_wp2_with fail;refine bodyPost_ret (v:=.tuple #[.agg #[.int .i64 0,.int .i64 0],.iface 68 (.int .i64 (av l))]) (by simp [results,Tryz.results128,go_sem,T]) rfl ⟨rfl,?_⟩
  exact (c.out.setCell (by simp;omega) _).setCell (by simp;omega) _
 rw [o,errV_zero] at b;have j:=fun w' (G:Bl w w')=>uD An y N Ac u C w' (P.later G) (M.later G)
 obtain ⟨W,F⟩:∃ W,((w.alloc (.cells #[.slice An N.length y] 51)).alloc (.cells #[.slice Ac C.length u] 33)).alloc (.cells #[.int .i64 0,.int .i64 0] 40)=W:=⟨_,rfl⟩;have g:Bl w W:=by rw [←F];go_grown
 have Z:W.heap[w.heap.size]?=some (.cells #[.slice An N.length y] 51 (0,0)):=by rw [←F,heap_alloc_old _ _ (by simp;omega),pk]
 have s:W.heap[w.heap.size+1]?=some (.cells #[.slice Ac C.length u] 33 (0,0)):=by rw [←F,heap_alloc_old _ _ (by simp),jR]
 have Q:W.cell? ⟨w.heap.size,0,none⟩=some (.slice An N.length y):=by simp [World.cell?,Z]
 have S:W.cell? ⟨w.heap.size+1,0,none⟩=some (.slice Ac C.length u):=by simp [World.cell?,s]
 have H:W.heap.size=w.heap.size+3:=by rw [←F];simp
 have d:Hid (Bl w W):=g;have f:Hid (W.heap.size=w.heap.size+3):=H;have n:W.heap[w.heap.size+1+1]?=some (.cells #[.int .i64 0,.int .i64 0] 40 (0,0)):=by
  have h:=heap_alloc_new ((w.alloc (.cells #[.slice An N.length y] 51)).alloc (.cells #[.slice Ac C.length u] 33)) (.cells #[.int .i64 0,.int .i64 0] 40);rw [F] at h
  simpa using h
 have t:Hid (W.heap[w.heap.size+1+1]?=some (.cells #[.int .i64 0,.int .i64 0] 40 (0,0))):=n;have K:=aa Q;have L:=aa S
 by_cases D:dH N C=0
 case neg =>
  obtain ⟨z,B⟩:=ID o D;rw [z,B];rw [aj D] at j ⊢;unfold noC;clear o D z B O P M g Q S H n Z s
  go_enter Tryz.func128,Tryz.ntmps128
  go_wp2_with fail;refine (b _ d.out).mono ?_;rintro e s ⟨rfl,a⟩;have c:Hid (Bl W s):=a;have U:=(a.cell (p:=⟨w.heap.size,0,none⟩) (by have:=f.out;simp;omega)).trans K.out
  have V:=(a.cell (p:=⟨w.heap.size+1,0,none⟩) (by have:=f.out;simp;omega)).trans L.out
  clear a b F;go_wp2_with fail;refine (j _ (ae d.out c.out)).mono ?_;rintro e w3 ⟨rfl,m⟩;have k:Hid (Bl W w3):=ae c.out m;have i:=(k.out.block (w.heap.size+1+1) (by have:=f.out;omega)).trans t.out
  have r1:w.heap.size+1+1<w3.heap.size:=(Array.getElem?_eq_some_iff.1 i).1;have X:w3.cell? ⟨w.heap.size+1+1,0,none⟩=some (.int .i64 0):=by simp [World.cell?,i]
  have Y:w3.cell? ⟨w.heap.size+1+1,1,none⟩=some (.int .i64 0):=by simp [World.cell?,i]
  have rf0:w3.frozen? ⟨w.heap.size+1+1,0,none⟩=false:=by simp [World.frozen?,i]
  have rf1:w3.frozen? ⟨w.heap.size+1+1,1,none⟩=false:=by simp [World.frozen?,i]
  clear m i j U V;go_wp2_with fail;refine bodyPost_ret (v:=.tuple #[.agg #[.int .i64 0,.int .i64 0],.iface 68 (.int .i64 (dH N C))]) (by simp [results,Tryz.results128,go_sem,X,Y]) rfl ⟨rfl,?_⟩
  exact ((ae d.out k.out).setCell (by simp;omega) _).setCell (by simp;omega) _
 obtain ⟨z,B⟩:=zn o D;rw [z,B];rw [D,errV_zero] at j;have J:Hid (∀ w',Bl W w'→Calls Tryz.prog 152 #[.slice A l.length cap,.func (.func 153) #[] #[.pointer (some ⟨w.heap.size,0,none⟩),.pointer (some ⟨w.heap.size+1,0,none⟩)]] w' fun e w''=>e=.returned (.tuple #[.agg #[.int .i64 (if missT N (aB l (l.length-1))=true then noC else dX N C (aB l (l.length-1))).1,.int .i64 (if missT N (aB l (l.length-1))=true then noC else dX N C (aB l (l.length-1))).2],errV (if missT N (aB l (l.length-1))=true then 5 else 0)])∧Bl w' w''):=by
  intro w' G;refine zK 153 w.heap.size (w.heap.size+1) vF N C A cap l w' (O.later (ae g G)) o (IZ D) ?_;intro x w'' q;have r:=ae G q;exact xS w.heap.size (w.heap.size+1) An y N Ac u C x w'' ((r.cell (p:=⟨w.heap.size,0,none⟩) (by simp;omega)).trans Q) ((r.cell (p:=⟨w.heap.size+1,0,none⟩) (by simp;omega)).trans S) (P.later (ae g r)) (M.later (ae g r)) D
 obtain ⟨R,hR⟩:∃ R,(if missT N (aB l (l.length-1))=true then noC else dX N C (aB l (l.length-1)))=R:=⟨_,rfl⟩
 obtain ⟨E,hE⟩:∃ E,errV (if missT N (aB l (l.length-1))=true then 5 else 0)=E:=⟨_,rfl⟩
 rw [hR,hE] at J ⊢;clear o D z B O P M hR hE g Q S H n Z s
 go_enter Tryz.func128,Tryz.ntmps128
 go_wp2_with fail;refine (b _ d.out).mono ?_;rintro e s ⟨rfl,a⟩;have c:Hid (Bl W s):=a;have U:=(a.cell (p:=⟨w.heap.size,0,none⟩) (by have:=f.out;simp;omega)).trans K.out
 have V:=(a.cell (p:=⟨w.heap.size+1,0,none⟩) (by have:=f.out;simp;omega)).trans L.out
 clear a b F;go_wp2_with fail;refine (j _ (ae d.out c.out)).mono ?_;rintro e w2 ⟨rfl,q⟩;have I:Hid (Bl W w2):=ae c.out q;clear q j U V;go_wp2_with fail;refine (J.out _ I.out).mono ?_;rintro e w3 ⟨rfl,m⟩;have k:Hid (Bl W w3):=ae I.out m;have i:=(k.out.block (w.heap.size+1+1) (by have:=f.out;omega)).trans t.out
 have r1:w.heap.size+1+1<w3.heap.size:=(Array.getElem?_eq_some_iff.1 i).1;have X:w3.cell? ⟨w.heap.size+1+1,0,none⟩=some (.int .i64 0):=by simp [World.cell?,i]
 have Y:w3.cell? ⟨w.heap.size+1+1,1,none⟩=some (.int .i64 0):=by simp [World.cell?,i]
 have rf0:w3.frozen? ⟨w.heap.size+1+1,0,none⟩=false:=by simp [World.frozen?,i]
 have rf1:w3.frozen? ⟨w.heap.size+1+1,1,none⟩=false:=by simp [World.frozen?,i]
 clear m i;go_wp2_with fail;refine bodyPost_ret (v:=.tuple #[.agg #[.int .i64 R.1,.int .i64 R.2],E]) (by simp [results,Tryz.results128,go_sem,X,Y]) rfl ⟨rfl,?_⟩
 exact ((ae d.out k.out).setCell (by simp;omega) _).setCell (by simp;omega) _
end Go.Proofs.YthlhjjabkgpenaaGreatDoor
