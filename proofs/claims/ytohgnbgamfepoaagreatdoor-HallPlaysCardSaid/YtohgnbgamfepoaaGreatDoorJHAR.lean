/-
  What slices.IndexFunc and slices.DeleteFunc over ints answer where the question is told of the list's own numbers alone: the rest of a list in a row of one's own.
-/
import Derived.Test.YtohgnbgamfepoaaGreatDoorJHAP
namespace Go.Proofs.YtohgnbgamfepoaaGreatDoor
open Go Go.ChangeShapes Go.WideShapes Go.ChangeAt Go.RowKit
set_option maxRecDepth 20000
theorem iZ {w w1 w2:World} {r:Option Nat} (h:w.grownBy w1 r) (k:w1.grownBy w2 r):w.grownBy w2 r :=
 ⟨k.os.trans h.os,k.tape.trans h.tape,k.output.trans h.output,zV h.size k.size,fun i a b=>(k.block i (zW a h.size) b).trans (h.block i a b)⟩
theorem dF {w w':World} {r:Option Nat} (h:Bl w w'):w.grownBy w' r:=⟨h.os,h.tape,h.output,h.size,fun i a _=>h.block i a⟩
theorem qv (w:World) (g:Nat) (cs:Array Value):w.grownBy (w.setRow g cs) (some g) :=
 ⟨rfl,rfl,rfl,by rw [setRow_size];exact zT,fun i _ a=>setRow_other w g i cs fun e=>a (by rw [e])⟩
theorem kq (g:Nat) (t:TypeId):∀ (vs:List Value) (o:Nat) (a:Array Value) (w:World),w.heap[g]?=some (.cells a t (0,0))→o+vs.length≤a.size→w.setCells g o vs=w.setRow g (a.toList.take o ++ vs ++ a.toList.drop (o+vs.length)).toArray
 | [],o,a,w,hg,_=>by
  simp only [World.setCells,List.append_nil,List.length_nil,Nat.add_zero,List.take_append_drop,Array.toArray_toList];rw [setRow_self w g a t (0,0) hg]
 | v :: r,o,a,w,hg,hl=>by
  simp only [List.length_cons] at hl;rw [World.setCells,setCell_eq_setRow w g o a t (0,0) v hg,kq g t r (o+1) (a.setIfInBounds o v) _ (setRow_heap w g a _ t _ hg) (by simp;omega),setRow_setRow]
  have e:=list_seg_step a.toList o v r (by simp;omega)
  congr 2
  simpa [Array.toList_setIfInBounds,Nat.add_assoc] using e
theorem xx (F:Nat) (cap:Array Value) (p:Int→Bool) (a:∀ (args:Array Value) (w:World),(callFunc F args).run Tryz.prog w=.ok (.enter F args) w) (A:Option Addr) (c:Nat) (L:List Int) (w:World) (f:L.length≤3000) (d:bX w A c L)
  (b:∀ (x:Int) (w':World),x∈L→Bl w w'→Calls Tryz.prog F (#[.int .i64 x] ++ cap) w' fun e w''=>e=.returned (.bool (p x))∧Bl w' w'') :
  Rt 132 #[.slice A L.length c,.func (.func F) #[] cap] w (.int .i64 (findFrom (fun j=>p (L.getD j 0)) L.length 0)) :=
 rj F cap p a A c L w (by omega) (ly d) b
def rX (L:List Int) (p:Int→Bool) (i j:Nat) (cur:Array Value):Prop:=i<j∧((L.take j).filter fun x => !p x).length=i∧(∀ m,m<i→cur[m]?=some (.int .i64 (((L.take j).filter fun x => !p x).getD m 0)))∧∀ m,j≤m→m<L.length→cur[m]?=some (.int .i64 (L.getD m 0))
theorem qe {L:List Int} {j:Nat} (h:j<L.length):L.take (j+1)=L.take j ++ [L.getD j 0]:=by
 rw [List.take_succ_eq_append_getElem h,zZ,zX h]
 rfl
theorem wP {L:List Int} {p:Int→Bool} {k:Nat} {a:Array Value} (l:k<L.length) (d:p (L.getD k 0)=true) (o:∀ j,j<k→p (L.getD j 0)=false) (c:∀ m,m<L.length→a[m]?=some (.int .i64 (L.getD m 0))):rX L p k (k+1) a:=by
 have g:(L.take k).filter (fun x => !p x)=L.take k:=by
  rw [List.filter_eq_self];intro x q;obtain ⟨j,i,rfl⟩:=List.getElem_of_mem q;have b:j<k:=by rw [List.length_take] at i;omega
  have h:=o j b;rw [zZ,zX (by omega)] at h
  simpa using h
 have e:(L.take (k+1)).filter (fun x => !p x)=L.take k:=by
  rw [qe l,List.filter_append,g];generalize L.getD k 0=x at d ⊢
  simp [d]
 refine ⟨by omega,by rw [e,List.length_take];omega,fun m n=>?_,fun m r f=>c m f⟩
 rw [e,c m (by omega),zZ,zZ,List.getElem?_take_of_lt n]
theorem BY {L:List Int} {p:Int→Bool} {i j:Nat} {c:Array Value} (h:rX L p i j c) (l:j<L.length) (d:p (L.getD j 0)=true):rX L p i (j+1) c:=by
 have e:(L.take (j+1)).filter (fun x => !p x)=(L.take j).filter (fun x => !p x):=by
  rw [qe l,List.filter_append];generalize L.getD j 0=x at d ⊢
  simp [d]
 obtain ⟨o,f,g,k⟩:=h;refine ⟨by omega,by rw [e];exact f,fun m n=>by rw [e];exact g m n,fun m a b=>k m (by omega) b⟩
theorem BX {L:List Int} {p:Int→Bool} {i j:Nat} {c:Array Value} (h:rX L p i j c) (n:j<L.length) (r:L.length≤c.size) (g:p (L.getD j 0)=false):rX L p (i+1) (j+1) (c.setIfInBounds i (.int .i64 (L.getD j 0))):=by
 have e:(L.take (j+1)).filter (fun x => !p x)=(L.take j).filter (fun x => !p x) ++ [L.getD j 0]:=by
  rw [qe n,List.filter_append];generalize L.getD j 0=x at g ⊢
  simp [g]
 obtain ⟨o,f,k,l⟩:=h;generalize L.getD j 0=x at e ⊢;refine ⟨by omega,by rw [e,List.length_append,f];rfl,fun m q=>?_,fun m a b=>?_⟩
 ·rw [e,Array.getElem?_setIfInBounds]
  by_cases d:i=m
  ·rw [if_pos d,if_pos (by omega),zZ,List.getElem?_append_right (by omega),f,d]
   simp
  rw [if_neg d,k m (by omega),zZ,zZ,List.getElem?_append_left (by omega)]
 rw [Array.getElem?_setIfInBounds,if_neg (by omega)]
 exact l m (by omega) b
theorem uk {w wr:World} {g k:Nat} {v:Value} (h:w.grownBy wr (some g)):w.grownBy (wr.setCell ⟨g,k,none⟩ v) (some g):=by
 refine ⟨h.os,h.tape,h.output,by simpa [World.setCell] using h.size,fun i b a=>?_⟩
 rw [←h.block i b a];simp only [World.setCell,Array.getElem?_modify];rw [if_neg fun e=>a (by rw [e])]
theorem EK (F:Nat) (Y:Array Value) (p:Int→Bool) (E:∀ (args:Array Value) (w:World),(callFunc F args).run Tryz.prog w=.ok (.enter F args) w) (base:Nat) (v:Value) (L:List Int) (w:World) (hn:L.length≤3000) (o:w.ownsRow base 3 1 v L.length (aE L))
  (Z:∀ (x:Int) (w':World),x∈L→w.grownBy w' v.ownBlock→Calls Tryz.prog F (#[.int .i64 x] ++ Y) w' fun e w''=>e=.returned (.bool (p x))∧Bl w' w'') :
  Calls Tryz.prog 204 #[v,.func (.func F) #[] Y] w fun e w'=>(∃ A' c',e=.returned (.slice A' (L.filter fun x => !p x).length c')∧aR w' A' c' (L.filter fun x => !p x))∧w.grownBy w' v.ownBlock:=by
 obtain ⟨A,c,rfl,hI⟩:=bQ o;have l:=xx F Y p E A c L w (by omega) hI.at fun x w' hx hB=>Z x w' hx (dF hB)
 rcases findFrom_cases (fun j=>p (L.getD j 0)) L.length 0 with ⟨R,h2⟩ | ⟨k,R,_,h3,h4,h5⟩
 ·have N:(L.filter fun x => !p x)=L:=by
   rw [List.filter_eq_self];intro x hx;obtain ⟨j,hj,rfl⟩:=List.getElem_of_mem hx;have h:=h2 j (zU) (by omega)
   simp only [zZ,zX hj] at h
   simpa using h
  have HF:=aa N;have HI:=aa hI;rw [R] at l;rw [N];generalize L.length=n at l;clear Z o hI R h2 N E
  go_enter Tryz.func204,Tryz.ntmps204
  go_wp2_with fail;refine l.mono ?_;rintro e w1 ⟨rfl,r⟩;go_wp2_with fail;go_ret;exact ⟨⟨A,c,rfl,HI.out.later r⟩,dF r⟩
 have hk:k<L.length:=by omega
 obtain ⟨S,U,hI0 | ⟨g,cs0,fr0,rfl,hg0,-⟩⟩:=hI
 ·rw [hI0] at hk;simp at hk
 obtain ⟨b,f,V,D⟩:∃ b:Array Value,w.heap[g]?=some (.cells b 3 (0,0))∧b.size=c∧∀ m,m<L.length→b[m]?=some (.int .i64 (L.getD m 0)):=by
  rcases o.2 with ⟨e,_⟩ | ⟨g',cap,b,e,hb,f,hc,J,hs,ht⟩
  ·cases e
  cases e;refine ⟨b,f,by omega,fun m J=>?_⟩
  have h:(aE L)[m]?=some (.int .i64 (L.getD m 0)):=by simp [aE,List.getD,zX J]
  rw [←ht,Nat.mul_one,List.getElem?_take_of_lt J] at h;rw [←h]
  simp
 have HSt:Hid (rX L p k (k+1) b):=wP hk h4 (fun j hj=>h5 j (zU) hj) D
 have HF:=aa Z;have HCs:=aa V;rw [R] at l;obtain ⟨n,K⟩:=az L.length;have H:=aa K;have O:=aa f;rw [K] at l hk hn S ⊢;have hki:(k:Int)<(n:Int):=by omega
 have hnI:(n:Int)≤3000:=by omega
 have hne:((k:Int) == -1)=false:=by
  have:(k:Int)≠-1:=by omega
  simp only [beq_eq_false_iff_ne];exact this
 show Calls Tryz.prog 204 #[.slice (some ⟨g,0,none⟩) n c,.func (.func F) #[] Y] w fun e w'=>(∃ A' c',e=.returned (.slice A' (L.filter fun x => !p x).length c')∧aR w' A' c' (L.filter fun x => !p x))∧w.grownBy w' (some g)
 clear Z o hg0 D V R h3 h4 h5 f K
 go_enter Tryz.func204,Tryz.ntmps204
 go_wp2_with fail;refine l.mono ?_;rintro e w1 ⟨rfl,r⟩;have P:Hid (w1.heap[g]?=some (.cells b 3 (0,0))∧w.grownBy w1 (some g)):=⟨(r.block g (zY O.out).1).trans O.out,dF r⟩;clear r l;go_wp2_with fail
 go_loopg [5,6] (n-(k+1)) (fun gg s5 s6 wr => ∃ (i j:Nat) (q:Array Value),j≤n∧gg=n-j∧s5=.int .i64 i∧s6=.int .i64 j∧Hid (rX L p i j q∧q.size=c)∧wr.heap[g]?=some (.cells q 3 (0,0))∧w.grownBy wr (some g))
 case atStart=>exact ⟨k,k+1,b,by omega,rfl,rfl,by go_num,(⟨HSt.out,HCs.out⟩:_∧_),P.out.1,P.out.2⟩
 case round =>
  obtain ⟨i,j,q,hj,rfl,rfl,rfl,y,f,M⟩:=hrel;have HG:=aa f;have Q:=aa M;have hij:=y.out.1.1;have X:g<wr.heap.size:=(zY f).1;have I:=y.out.2
  by_cases C:j<n
  ·have hji:(j:Int)<(n:Int):=by omega
   have hii:(i:Int)<(n:Int):=by omega
   have cj:wr.cell? ⟨g,j,none⟩=some (.int .i64 (L.getD j 0)):=by
    rw [Lib.cell_of_heap f];exact y.out.1.2.2.2 j (zT) (by rw [H.out];exact C)
   have a:=HF.out (L.getD j 0) wr (by rw [zZ,zX (by rw [H.out];exact C)];exact List.getElem_mem _) M
   cases hp:p (L.getD j 0)
   ·rw [hp] at a
    have z:Hid (rX L p (i+1) (j+1) (q.setIfInBounds i (.int .i64 (L.getD j 0)))∧(q.setIfInBounds i (.int .i64 (L.getD j 0))).size=c):=⟨BX y.out.1 (by rw [H.out];exact C) (by rw [H.out,I];exact S) hp,by simpa using I⟩
    generalize L.getD j 0=x at cj a z;clear f M hp;go_wp2_with fail;refine a.mono ?_;rintro e w2 ⟨rfl,d⟩;have B:=(d.block g X).trans HG.out;have ci:(w2.cell? ⟨g,i,none⟩).isSome=true:=by
     rw [Lib.cell_of_heap B,Array.getElem?_eq_getElem (by omega)]
     rfl
    obtain ⟨old,hold⟩:∃ old,w2.cell? ⟨g,i,none⟩=some old:=Option.isSome_iff_exists.1 ci;have hfr:w2.frozen? ⟨g,i,none⟩=false:=Lib.frozen_of_heap B i;have G:Hid ((w2.setCell ⟨g,i,none⟩ (.int .i64 x)).heap[g]?=some (.cells (q.setIfInBounds i (.int .i64 x)) 3 (0,0))):=by
     show _=_
     simp [World.setCell,Array.getElem?_modify,B]
    have s:Hid (w.grownBy (w2.setCell ⟨g,i,none⟩ (.int .i64 x)) (some g)):=uk (iZ Q.out (dF d));clear d B a ci;go_wp2_with fail
    go_roundg (n-(j+1))
    case measure=>omega
    case rel=>exact ⟨i+1,j+1,_,by omega,rfl,by go_num,by go_num,z,G.out,s.out⟩
   rw [hp] at a;have z:Hid (rX L p i (j+1) q∧q.size=c):=⟨BY y.out.1 (by rw [H.out];exact C) hp,I⟩
   generalize L.getD j 0=x at cj a;clear f M hp;go_wp2_with fail;refine a.mono ?_;rintro e w2 ⟨rfl,d⟩;have G:=aa ((d.block g X).trans HG.out);have s:Hid (w.grownBy w2 (some g)):=iZ Q.out (dF d);clear d a;go_wp2_with fail
   go_roundg (n-(j+1))
   case measure=>omega
   case rel=>exact ⟨i,j+1,_,by omega,rfl,rfl,by go_num,z,G.out,s.out⟩
  have hje:j=n:=by omega
  subst hje;have hii:(i:Int)<(j:Int):=by omega
  have a:∀ ty,(Builtin.clear_ #[26] ty #[.slice (some ⟨g,0+i,none⟩) (j-i) (c-i)]).run Tryz.prog wr=.ok (.tuple #[]) (wr.setCells g (0+i) (List.replicate (j-i) (.int .i64 0))) :=
   fun ty=>Lib.run_clear_slice wr _ _ ty _ Tryz.underlying26 Tryz.zeroValue3 rfl rfl g (0+i) _ _ (by omega) (fun t ht=>by rw [Lib.cell_of_heap f,Array.getElem?_eq_getElem (by omega)];rfl) (fun t _=>Lib.frozen_of_heap f _)
  have HDn:=aa y;have u:=kq g 3 (List.replicate (j-i) (.int .i64 0)) (0+i) q wr f (by simp;omega)
  obtain ⟨W,hW⟩:=az (wr.setCells g (0+i) (List.replicate (j-i) (Value.int .i64 0)));have HGW:Hid (w.grownBy W (some g)):=by rw [←hW,u];exact iZ M (qv wr g _)
  have HTW:Hid (aR W (some ⟨g,0,none⟩) c (L.filter fun x => !p x)):=by
   have N:(L.filter fun x => !p x)=(L.take j).filter fun x => !p x:=by rw [List.take_of_length_le (by rw [H.out];exact zT)]
   have T:W.heap[g]?=some (.cells (q.toList.take (0+i) ++ List.replicate (j-i) (Value.int .i64 0) ++ q.toList.drop (0+i+(List.replicate (j-i) (Value.int .i64 0)).length)).toArray 3 (0,0)):=by rw [←hW,u];exact setRow_heap wr g q _ _ _ f
   refine ⟨by rw [N,y.out.1.2.1];omega,U,Or.inr ⟨g,_,_,rfl,T,fun m J=>?_⟩⟩
   rw [N] at J ⊢;rw [y.out.1.2.1] at J;rw [Lib.cell_of_heap T,←y.out.1.2.2.1 m J];simp only [List.getElem?_toArray];rw [List.append_assoc,List.getElem?_append_left (by simp;omega),List.getElem?_take_of_lt (by omega)]
   simp
  have HFl:Hid ((L.filter fun x => !p x).length=i):=by
   show _=_
   rw [←y.out.1.2.1,List.take_of_length_le (by rw [H.out];exact zT)]
  rw [hW,Nat.zero_add] at a;have hcI:(j:Int)≤(c:Int):=by omega
  clear f M u hW;go_wp2;go_ret;exact ⟨⟨some ⟨g,0,none⟩,c,by rw [HFl.out];rfl,HTW.out⟩,HGW.out⟩
end Go.Proofs.YtohgnbgamfepoaaGreatDoor
namespace Go.Proofs.YtohgnbgamfepoaaGreatDoor
open Go.ChangeShapes Go.WideShapes Go.ChangeAt Go.RowKit
open Go.Sort (putRow Holds grow holds_putRow)
set_option maxRecDepth 20000
def jl (w:World) (A:Option Addr) (c:Nat) (L:List Nd):Prop:=gt w A c L∧(L=[]∨∃ b o cs fr,A=some ⟨b,o,none⟩∧w.heap[b]?=some (.cells cs 132 fr))
theorem jl.nil (w:World) (A:Option Addr) (c:Nat) (h:c≤9223372036854775807):jl w A c []:=⟨gt.nil w A c h,Or.inl rfl⟩
theorem jl.keep {w w':World} {A:Option Addr} {c:Nat} {L:List Nd} (h:jl w A c L) (j:∀ (b:Nat) (cs:Array Value) (fr:Nat×Nat),w.heap[b]?=some (Obj.cells cs 132 fr)→w'.heap[b]?=w.heap[b]?):jl w' A c L:=by
 obtain ⟨⟨g,i,f⟩,e⟩:=h
 rcases e with e | ⟨b,o,cs,fr,hA,hb⟩
 ·exact ⟨⟨g,i,Or.inl e⟩,Or.inl e⟩
 have d:=j b cs fr hb;refine ⟨⟨g,i,?_⟩,Or.inr ⟨b,o,cs,fr,hA,d.trans hb⟩⟩
 rcases f with f | ⟨b',o',hA',h5,h6⟩
 ·exact Or.inl f
 rw [hA] at hA';cases hA';refine Or.inr ⟨b,o,hA,(zY (d.trans hb)).1,fun k l=>?_⟩
 obtain ⟨m,n,p,q,r⟩:=h6 k l;exact ⟨(World.cell?_of_block (a:=⟨b,_,none⟩) d).trans m,(World.cell?_of_block (a:=⟨b,_,none⟩) d).trans n,(World.cell?_of_block (a:=⟨b,_,none⟩) d).trans p,(World.cell?_of_block (a:=⟨b,_,none⟩) d).trans q,(World.cell?_of_block (a:=⟨b,_,none⟩) d).trans r⟩
theorem jl.later {w w':World} {A:Option Addr} {c:Nat} {L:List Nd} (h:jl w A c L) (a:Bl w w'):jl w' A c L :=
 h.keep fun b _ _ d=>a.block b (zY d).1
theorem H7 {w:World} {N:Nat} {A:Option Addr} {c:Nat} {l:List Nd} (h:w.ownsRow N 132 5 (.slice A l.length c) l.length (aS l)):jl w A c l:=by
 refine ⟨Fy h,?_⟩
 rcases h.2 with ⟨a,d⟩ | ⟨g,cap,b,a,f,e,-⟩
 ·exact Or.inl (List.eq_nil_of_length_eq_zero d)
 cases a;exact Or.inr ⟨g,0,_,_,rfl,e⟩
def jY (w:World) (A:Option Addr) (c:Nat) (L:List (List UInt8)):Prop:=gN w A c L∧(L=[]∨∃ b o cs fr,A=some ⟨b,o,none⟩∧w.heap[b]?=some (.cells cs 9 fr))
theorem jY.nil (w:World) (A:Option Addr) (c:Nat) (h:c≤9223372036854775807):jY w A c []:=⟨gN.nil w A c h,Or.inl rfl⟩
theorem jY.keep {w w':World} {A:Option Addr} {c:Nat} {L:List (List UInt8)} (h:jY w A c L) (j:∀ (b:Nat) (cs:Array Value) (fr:Nat×Nat),w.heap[b]?=some (Obj.cells cs 9 fr)→w'.heap[b]?=w.heap[b]?):jY w' A c L:=by
 obtain ⟨⟨g,i,e⟩,d⟩:=h
 rcases d with d | ⟨b,o,cs,fr,hA,hb⟩
 ·exact ⟨⟨g,i,Or.inl d⟩,Or.inl d⟩
 have f:=j b cs fr hb;refine ⟨⟨g,i,?_⟩,Or.inr ⟨b,o,cs,fr,hA,f.trans hb⟩⟩
 rcases e with e | ⟨b',o',hA',h5,h6⟩
 ·exact Or.inl e
 rw [hA] at hA';cases hA';exact Or.inr ⟨b,o,hA,(zY (f.trans hb)).1,fun k l=>(World.cell?_of_block (a:=⟨b,_,none⟩) f).trans (h6 k l)⟩
theorem jY.later {w w':World} {A:Option Addr} {c:Nat} {L:List (List UInt8)} (h:jY w A c L) (a:Bl w w'):jY w' A c L :=
 h.keep fun b _ _ d=>a.block b (zY d).1
theorem F9 {w:World} {g n:Nat} {d:Array (List UInt8)} {cs:Array Value} {T:Nat} {fr:Nat×Nat} (h:w.heap[g]?=some (.cells cs T fr)):∃ cs' fr',(putRow encStr (Sort.ahead w n) g 0 d).heap[g]?=some (.cells cs' T fr'):=by
 unfold putRow Sort.mapBlock;have a:(Sort.ahead w n).heap[g]?=some (.cells cs T fr):=h;simp only [Array.getElem?_modify,if_true,a,Option.map_some];exact ⟨_,_,rfl⟩
theorem E9 {w:World} {g T:Nat} {os:Array Obj} (h:∃ cs fr,w.heap[g]?=some (.cells cs T fr)):∃ cs fr,(grow w os).heap[g]?=some (.cells cs T fr):=by
 obtain ⟨cs,fr,h⟩:=h;exact ⟨cs,fr,by rw [Sort.heap_grow_old _ _ (zY h).1];exact h⟩
theorem Eo (N p:Nat) (b:Bld) (w:World) (q:N≤w.heap.size) (l:b.nodes.length+opsN b.waiting≤200) (m:b.ready.length≤200) (n:opsN b.waiting+1≤b.ready.length) (o:b.waiting.length≤200) (d:dj N p b w) :
  Calls Tryz.prog 211 #[.pointer (some ⟨p,0,none⟩)] w fun e w'=>(∃ A c,e=.returned (.slice A (settleB 0 b).nodes.length c)∧jl w' A c (settleB 0 b).nodes)∧Kept N (fun k=>k=p) w w':=by
 have h:=kN N p b 0 w q l m n o d;generalize settleB 0 b=b1 at *;clear d
 go_enter Tryz.func211,Tryz.ntmps211
 go_wp2_with fail;refine h.mono ?_;rintro e w1 ⟨rfl,⟨AN,j,AR,r,AW,s,a⟩,f⟩;have c0:=a.c0;have i:Hid (jl w1 AN j b1.nodes):=H7 a.nod;have g:=aa f;clear a f h;go_wp2_with fail;go_ret;exact ⟨⟨_,_,rfl,i.out⟩,g.out⟩
theorem oU (s:ByteArray) (w:World) (y:s.size≤100):Calls Tryz.prog 166 #[.string s] w fun e w'=>(∃ A c,e=.returned (.tuple #[.slice A (bI s).length c,.int .i64 (jx s:Int),errV (prsE s)])∧jl w' A c (bI s))∧Bl w w':=by
 have hmf:∀ (fn:Fn) (first cap:Array Value) (w:World),(Instr.makeFunc fn first cap).run Tryz.prog w=.ok (.func fn first cap) w:=fun _ _ _ _=>rfl
 have S:(s.size:Int)≤100:=by omega
 have D:Hid ((dJ s).1.at'≤s.size):=I7 _ (zU);have i:=Cc (tkB (w.heap.size+4) w.heap.size) (JI _ _) s noB (qx w) (by show s.size≤100;exact y) (by rw [my];rfl) (by rw [my];exact Nat.lt_succ_self _) (H8 w) Hl (dJ s) rfl
 have E:Hid (Bl w (qx w)):=xP w;obtain ⟨W,hW⟩:=az (qx w);have HZ:Hid ((qx w).heap.size=w.heap.size+1):=my w;rw [hW] at i E HZ;unfold qx at hW;have U:(tkB (w.heap.size+4) w.heap.size).fv=.func (.func 208) #[.pointer (some ⟨w.heap.size,0,none⟩)] #[]:=rfl;rw [U] at i;have HI:Hid (∀ st w',(tkB (w.heap.size+4) w.heap.size).I st w'→dj (w.heap.size+4) w.heap.size st w'):=fun _ _ h=>h
 have HG:Hid (∀ a o ph st,(tkB (w.heap.size+4) w.heap.size).G a o ph st→FitB a o ph st):=fun _ _ _ _ h=>h
 have O:Hid ((tkB (w.heap.size+4) w.heap.size).p=w.heap.size∧(tkB (w.heap.size+4) w.heap.size).N=w.heap.size+4):=⟨rfl,rfl⟩;generalize tkB (w.heap.size+4) w.heap.size=T at *;cases hx:(dJ s).2
 ·have q:prsE s=2:=by unfold prsE;rw [if_neg (by omega),if_neg (by rw [hx];decide)]
  have z:jx s=(dJ s).1.at':=by unfold jx;rw [if_neg (by omega),if_neg (by rw [hx];decide)]
  have Z:bI s=[]:=by unfold bI;rw [if_neg (by rw [q];decide)]
  rw [q,z,Z,ak (by decide)]
  have P:=aa hx;clear q z Z hx
  go_enter Tryz.func166,Tryz.ntmps166
  go_wp2_with fail;refine i.mono ?_;rintro e w1 ⟨⟨B,-⟩,⟨R,-⟩ | ⟨-,rfl⟩⟩
  ·exact absurd (P.out.symm.trans R) (by decide)
  have b:Hid (Bl w w1):=ib E.out B (by rw [O.out.1];exact zT)
  rw [ak (by decide)]
  clear B i;go_wp2_with fail;go_returns;exact ⟨⟨none,0,rfl,jl.nil _ _ _ (by omega)⟩,b.out⟩
 have q:prsE s=aA (eF s):=by unfold prsE;rw [if_neg (by omega),if_pos hx]
 have z:jx s=0:=by unfold jx;rw [if_neg (by omega),if_pos hx]
 have P:=aa hx;have F:=aa q;have n:Hid (bI s=if prsE s=0 then eF s else []):=rfl
 have M:Hid (eF s=(settleB 0 (dJ s).1.st).nodes):=rfl;rw [q,z];clear q z hx
 go_enter Tryz.func166,Tryz.ntmps166
 go_wp2_with fail;refine i.mono ?_;rintro e w1 ⟨⟨B,C⟩,⟨-,rfl,Y,X⟩ | ⟨R,-⟩⟩
 case inr=>exact absurd (P.out.symm.trans R) (by decide)
 have b:Hid (Bl w w1):=ib E.out B (by rw [O.out.1];exact zT)
 obtain ⟨f1,Q,f3,f4,f5⟩:=HG.out _ _ _ _ X;simp only [if_true] at Q;rw [O.out.2] at C;have hat:(dJ s).1.at'≤200:=by have:=D.out;omega
 have j:=Eo (w.heap.size+4) w.heap.size (dJ s).1.st w1 C (by omega) (by omega) Q (by omega) (HI.out _ _ Y)
 clear B i Y X f1 Q f3 f4 f5;rw [←M.out] at j;obtain ⟨L,r⟩:=az (eF s);have x:=aa r;rw [r] at j F n;clear r;go_wp2_with fail;refine j.mono ?_;rintro e w2 ⟨⟨A,c,rfl,t⟩,g⟩;have u:Hid (Bl w w2):=⟨g.os.trans b.out.os,g.tape.trans b.out.tape,g.output.trans b.out.output,zV b.out.size g.size,fun k V=>by rw [g.block k (by omega) (by omega)];exact b.out.block k V⟩
 have J:=aa t;have f:=oQ A c L w2 t.1;clear g t j
 by_cases l:aA L=0
 ·have v:Hid (bI s=L):=by show _=_;rw [n.out,F.out,if_pos l]
  rw [l,errV_zero] at f;have H:=aa l;clear l;go_wp2_with fail;refine f.mono ?_;rintro e w3 ⟨rfl,d⟩;have m:=aa (ae u.out d);have K:=aa (J.out.later d);clear d f;go_wp2_with fail;go_returns;exact ⟨⟨A,c,by rw [v.out,x.out,H.out];rfl,by rw [v.out];exact K.out⟩,m.out⟩
 have v:Hid (bI s=[]):=by show _=_;rw [n.out,F.out,if_neg l]
 rw [ak l] at f;have H:Hid (errV (aA L)=.iface 63 (.int .i64 (aA L))):=ak l;clear l;go_wp2_with fail;refine f.mono ?_;rintro e w3 ⟨rfl,d⟩;have m:=aa (ae u.out d);clear d f;go_wp2_with fail;go_returns;exact ⟨⟨none,0,by rw [v.out,x.out,H.out];rfl,by rw [v.out];exact jl.nil _ _ _ (by omega)⟩,m.out⟩
theorem re (A:Option Addr) (cap:Nat) (l:List Nd) (w:World) (T:gt w A cap l):Calls Tryz.prog 167 #[.slice A l.length cap] w fun e w'=>(∃ A' c',e=.returned (.tuple #[.slice A' (aX l).length c',errV (aA l)])∧jY w' A' c' (aX l))∧Bl w w':=by
 have f:=oQ A cap l w T;obtain ⟨i0,hi0,hz0,hz1,hz2⟩:=info_parts Tryz.infoStrF
 by_cases G:aA l=0
 case neg =>
  have U:aX l=[]:=by unfold aX;rw [if_neg G]
  rw [U];rw [ak G] at f ⊢;clear G U
  go_enter Tryz.func167,Tryz.ntmps167
  go_wp2_with fail;refine f.mono ?_;rintro e w1 ⟨rfl,B⟩;go_wp2_with fail;go_returns;exact ⟨⟨none,0,rfl,jY.nil _ _ _ (by omega)⟩,B⟩
 obtain ⟨Y,hl30,hg,-⟩:=dD G;have U:aX l=Lib.compact ((dr l l.length).mergeSort fun x y=>decide (x≤y)):=by unfold aX;rw [if_pos G]
 rw [G,errV_zero] at f ⊢;obtain ⟨-,-,h1 | ⟨b,o,rfl,T⟩⟩:=T
 ·rw [h1] at Y;simp at Y
 have HG:=aa hg;have HN:=aa T;have HP:=aa U;obtain ⟨n,hn⟩:=az l.length;have HL:=aa hn;rw [hn] at f ⊢;have hni:(n:Int)≤30:=by omega
 clear G U hg T
 go_enter Tryz.func167,Tryz.ntmps167
 go_wp2_with fail;refine f.mono ?_;rintro e w1 ⟨rfl,B⟩;have HB1:=aa B;clear B f;go_wp2_with fail
 go_loopg [5,15] n (fun g s5 s15 wr => ∃ (k:Nat) (v:Value),k≤n∧g=n-k∧s15=.int .i64 k∧v=s5∧wr.ownsRow w.heap.size 9 1 v (dr l k).length ((dr l k).map encStr)∧Bl w wr)
 case atStart=>exact ⟨0,_,zU,rfl,rfl,rfl,World.ownsRow_nil _ _ _ _,HB1.out⟩
 case round =>
  obtain ⟨k,v,hk,rfl,rfl,rfl,hO,S⟩:=hrel;have p:=aa hO;have F:=aa S;have hln:=AT l k;clear hO S
  by_cases hlt:k<n
  ·have hki:(k:Int)<(n:Int):=by omega
   obtain ⟨x0,x1,x2,x3,x4⟩:=(HN.out.later F.out).nd (k:=k) (by omega)
   have hbl:b<w.heap.size:=HN.out.1;have hsz:=F.out.size;have d:=HG.out k (by omega)
   obtain ⟨x,hx⟩:=az (l.getD k bO);have HX:=aa hx;rw [hx] at x0 x1 x2 x3 x4 d;clear hx;obtain ⟨m,hm⟩:=az ((dr l k).length)
   by_cases Q:x.op=2
   ·have HT:Hid (dr l (k+1)=dr l k ++ [x.name.data.toList]):=Ia (by omega) HX.out Q
    have C:aP x.name=0:=by
     unfold ndErr at d;rw [if_neg (by omega),if_neg (by omega),if_pos Q] at d
     split at d
     ·cases d
     rename_i h;simpa using h
    have hns:x.name.size≤8:=by
     unfold aP at C
     split at C
     ·cases C
     omega
    have V:=fun w=>kM x.name w (by omega)
    rw [Q] at x0;rw [hm] at p;clear d C;go_wp2_with fail;refine (V _).mono ?_;rintro e w2 ⟨rfl,J⟩;have t:Hid (Bl w w2):=ae F.out (ae (by go_grown) J)
    have I:=an p.out (ae (by go_grown) J)
    have hsz2:=t.out.size;clear J V
    go_wp2_with (at_builtin;refine wpList_append_own _ rfl _ _ 120 rfl w.heap.size 9 i0 (.string ⟨#[]⟩) 1 16 Tryz.underlying120 hi0 hz0 hz1 hz2 rfl (by decide) _ _ _ rfl (I.alloc _) ⟨w2.heap.size,0,none⟩ 1 1 [.string x.name] rfl rfl bz (by intro u hu;simp at hu;subst hu;rfl) (by unfold maxLen;omega) (by omega) (by simp;omega) ?_)
    intro v' w3 s r _;have D:Hid (Bl w w3):=bD t.out I r;have HO3:Hid (w3.ownsRow w.heap.size 9 1 v' (dr l (k+1)).length ((dr l (k+1)).map encStr)):=by
     show World.ownsRow ..
     rw [HT.out,List.length_append,List.map_append,hm];exact s
    clear s r I;go_wp2_with fail
    go_roundg (n-(k+1))
    case measure=>omega
    case rel=>exact ⟨k+1,_,by omega,rfl,by go_num,rfl,HO3.out,D.out⟩
   have HT:Hid (dr l (k+1)=dr l k):=FD (by omega) HX.out Q
   have e2:(x.op == 2)=false:=by simpa using Q
   clear d Q;go_wp2_with fail
   go_roundg (n-(k+1))
   case measure=>omega
   case rel=>exact ⟨k+1,_,by omega,rfl,by go_num,rfl,by rw [HT.out];exact an p.out (by go_grown),ae F.out (by go_grown)⟩
  have hke:k=n:=by omega
  subst hke;obtain ⟨zs,P⟩:=az (dr l k);have HZ:Hid (aX l=Lib.compact (zs.mergeSort fun x y=>decide (x≤y))):=by show _=_;rw [HP.out,HL.out,P]
  rw [P] at p hln;clear P
  by_cases hz:zs=[]
  ·subst hz
   have hv:v=.slice none 0 0∨∃ g c,v=.slice (some ⟨g,0,none⟩) 0 c∧c≤maxLen:=by
    rcases p.out.2 with ⟨h,_⟩ | ⟨g,c,R,h,_,_,_,hm,_⟩
    ·exact Or.inl h
    exact Or.inr ⟨g,c,h,hm⟩
   have z:Hid (aX l=[]):=by show _=_;rw [HZ.out,List.mergeSort_nil];rfl
   rcases hv with rfl | ⟨g,c,rfl,K⟩
   ·have i:=Any.slices_Sort_string_none Tryz.lays190 none 0 wr
    have a:=Any.slices_Compact_string_empty Tryz.lays194 none 0 wr;clear p;go_wp2_with fail;refine Calls.mono i ?_;rintro e w2 ⟨rfl,rfl⟩;go_wp2_with fail;refine Calls.mono a ?_;rintro e w3 ⟨rfl,rfl⟩;go_wp2_with fail;go_returns;exact ⟨⟨none,0,by rw [z.out];rfl,by rw [z.out];exact jY.nil _ _ _ (by omega)⟩,F.out⟩
   have i:=Any.slices_Sort_string_none Tryz.lays190 (some ⟨g,0,none⟩) c wr;have a:=Any.slices_Compact_string_empty Tryz.lays194 (some ⟨g,0,none⟩) c wr;clear p;go_wp2_with fail;refine Calls.mono i ?_;rintro e w2 ⟨rfl,rfl⟩;go_wp2_with fail;refine Calls.mono a ?_;rintro e w3 ⟨rfl,rfl⟩;go_wp2_with fail;go_returns;exact ⟨⟨some ⟨g,0,none⟩,c,by rw [z.out];rfl,by rw [z.out];exact jY.nil _ _ _ (by unfold maxLen at K;omega)⟩,F.out⟩
  have hpos:0<zs.length:=List.length_pos_iff.2 hz;obtain ⟨g,c,rfl,W,X,hnc,K,-,hH⟩:=Lib.holds_of_ownsRow p.out (by intro e;have:=p.out.2;rcases this with ⟨_,h⟩ | ⟨g,c,R,h,_⟩;omega;rw [e] at h;cases h)
  have HTy:Hid (∃ cs fr,wr.heap[g]?=some (.cells cs 9 fr)):=by
   rcases p.out.2 with ⟨h,-⟩ | ⟨g',c',R,h,-,hg',-⟩
   ·cases h
   cases h;exact ⟨_,_,hg'⟩
  have i:=Any.slices_Sort_string Tryz.lays190 g 0 c zs wr hH X (by omega)
  clear p;go_wp2_with fail;refine Calls.mono i ?_;rintro e w2 ⟨rfl,q,os,j⟩;obtain ⟨ys,O⟩:=az ((zs.mergeSort fun x y=>decide (x≤y)))
  have N:ys.length=zs.length:=by rw [←O];exact List.length_mergeSort zs
  rw [O] at HZ j;have t:Hid (Bl w w2):=by rw [j];exact tj F.out W
  have hg2:g<w2.heap.size:=by rw [j];simp;omega
  have H:Holds encStr w2 g 0 ys.toArray:=by
   rw [j];exact Sort.holds_grow encStr _ _ _ _ _ (by simpa using X) (holds_putRow encStr (Sort.ahead wr q) g 0 zs.toArray _ hH (by simp [N]))
  have a:=Any.slices_Compact_string Tryz.lays194 g 0 c ys w2 H (by omega) (by omega)
  rw [N] at a;have HT2:Hid (∃ cs fr,w2.heap[g]?=some (.cells cs 9 fr)):=by
   obtain ⟨cs,fr,L⟩:=HTy.out;rw [j];exact E9 (F9 (n:=q) L)
  have E:Hid (∀ q2,gN (putRow encStr (Sort.ahead w2 q2) g 0 (Lib.compact ys ++ List.replicate (ys.length-(Lib.compact ys).length) []).toArray) (some ⟨g,0,none⟩) c (Lib.compact ys)):=fun q2=>vl H (by omega) K hg2
  rw [N] at E;clear j O i hH H;go_wp2_with fail;refine Calls.mono a ?_;rintro e w3 ⟨rfl,q2,M⟩;have D:Hid (Bl w w3):=by rw [M];exact sU t.out W
  have HS3:Hid (jY w3 (some ⟨g,0,none⟩) c (Lib.compact ys)):=by
   rw [M];obtain ⟨cs,fr,L⟩:=HT2.out;obtain ⟨cs',fr',Z⟩:=F9 (n:=q2) L;exact ⟨E.out q2,Or.inr ⟨g,0,_,_,rfl,Z⟩⟩
  clear M a E;go_wp2_with fail;go_returns;exact ⟨⟨some ⟨g,0,none⟩,c,by rw [HZ.out];rfl,by rw [HZ.out];exact HS3.out⟩,D.out⟩
theorem E6 (s:ByteArray) (w:World) (a:s.size≤100):Calls Tryz.prog 166 #[.string s] w fun e w'=>(∃ A c,e=.returned (.tuple #[.slice A (bI s).length c,.int .i64 (jx s:Int),errV (prsE s)])∧gt w' A c (bI s))∧Bl w w' :=
 (oU s w a).mono fun _ _ ⟨⟨A,c,b,d⟩,f⟩=>⟨⟨A,c,b,d.1⟩,f⟩
theorem Ho (A:Option Addr) (cap:Nat) (l:List Nd) (w:World) (f:gt w A cap l):Calls Tryz.prog 167 #[.slice A l.length cap] w fun e w'=>(∃ A' a,e=.returned (.tuple #[.slice A' (aX l).length a,errV (aA l)])∧gN w' A' a (aX l))∧Bl w w' :=
 (re A cap l w f).mono fun _ _ ⟨⟨A',a,b,c⟩,d⟩=>⟨⟨A',a,b,c.1⟩,d⟩
theorem lZ (d:Dm) (s:ByteArray):findFrom (fun j=>same (d.mem j).name s) d.n 0=whL d s.data.toList:=by
 unfold whL;rw [Array.toArray_toList]
theorem Jg:du 202:=fun args w=>by simp [callFunc,Tryz.func202];rfl
theorem Hs (m:Mem) (s:ByteArray) (q:Nat) (w:World) (a:q<w.heap.size) (h:w.cell? ⟨q,0,none⟩=some (.string s)):Rt 202 #[qw m,.pointer (some ⟨q,0,none⟩)] w (.bool (same m.name s)):=by
 unfold qw
 go_enter Tryz.func202,Tryz.ntmps202
 go_wp2_with fail;go_ret;exact ⟨by simp [same],by go_grown⟩
theorem Ji (d:Dm) (b o cap q:Nat) (s:ByteArray) (w:World) (v:d.n≤12) (p:b8 w b o d.n d.mem) (x:q<w.heap.size) (t:w.cell? ⟨q,2,none⟩=some (.slice (some ⟨b,o,none⟩) d.n cap)) :
  Rt 201 #[.string s,.pointer (some ⟨q,0,none⟩)] w (.int .i64 (whL d s.data.toList)):=by
 obtain ⟨W,k⟩:=az (w.alloc (.cells #[.string s] 9));have a:Bl w W:=by rw [←k];exact (zS).alloc (zT) _
 have m:W.heap.size=w.heap.size+1:=by rw [←k];simp
 have f:W.cell? ⟨w.heap.size,0,none⟩=some (.string s):=by
  have h:W.heap[w.heap.size]?=some (.cells #[.string s] 9 (0,0)):=by rw [←k];exact heap_alloc_new _ _
  rw [Lib.cell_of_heap h]
  rfl
 have u:=aC a x t;have c:=kD 202 w.heap.size Jg b o d.n cap d.mem (fun j=>same (d.mem j).name s) W v (p.later a) (fun j w' _ g=>Hs (d.mem j) s w.heap.size w' (by have:=g.size;omega) (aC g (by show w.heap.size<_;omega) f))
 rw [lZ] at c;generalize whL d s.data.toList=r at c ⊢;have i:=aa a;clear p t a m f
 go_enter Tryz.func201,Tryz.ntmps201
 go_wp2_with fail;refine c.mono ?_;rintro e w1 ⟨rfl,l⟩;go_wp2_with fail;go_ret;exact ⟨rfl,ae i.out l⟩
theorem xy (F:Nat) (cap:Array Value) (p:List UInt8→Bool) (C:∀ (args:Array Value) (w:World),(callFunc F args).run Tryz.prog w=.ok (.enter F args) w) (A:Option Addr) (c:Nat) (L:List (List UInt8)) (w:World) (M:L.length≤200) (I:gN w A c L)
  (B:∀ (x:List UInt8) (w':World),Bl w w'→Calls Tryz.prog F (#[.string ⟨x.toArray⟩] ++ cap) w' fun e w''=>e=.returned (.bool (p x))∧Bl w' w'') :
  Rt 251 #[.slice A L.length c,.func (.func F) #[] cap] w (.int .i64 (findFrom (fun j=>p (L.getD j [])) L.length 0)):=by
 obtain ⟨J,-,H | ⟨b,o,rfl,t,d⟩⟩:=I
 ·subst H
  simp only [List.length_nil]
  go_enter Tryz.func251,Tryz.ntmps251
  go_wp2_with fail;refine wp_loop_rounds 1 ?_;rw [rounds_succ];go_wp2_with fail;go_ret;exact ⟨rfl,zS⟩
 have z:=aa d;have E:=aa B;obtain ⟨pj,i⟩:∃ pj:Nat→Bool,pj=fun j=>p (L.getD j []):=⟨_,rfl⟩
 have G:Hid (∀ j,pj j=p (L.getD j [])):=fun j=>by rw [i]
 rw [←i];generalize hnn:L.length=n at M J z;clear d i hnn B
 go_enter Tryz.func251,Tryz.ntmps251
 go_wp2_with fail
 go_loopg [8] n (fun g s8 wr => ∃ (k:Nat),k≤n∧g=n-k∧s8=.int .i64 k∧findFrom pj (n-k) k=findFrom pj n 0∧Bl w wr)
 case atStart=>exact ⟨0,zU,rfl,rfl,rfl,zS⟩
 case round =>
  obtain ⟨k,O,rfl,rfl,D,f⟩:=hrel;have r:=aa D;have s:=aa f;clear D
  by_cases y:k<n
  ·have K:(k:Int)<(n:Int):=by omega
   have u:=aC f t (z.out k y);have N:(n:Int)≤200:=by omega
   have m:=G.out k;have l:Hid (n-k=(n-(k+1))+1):=by show _=_;omega
   have a:=E.out (L.getD k []) wr f;rw [←m] at a;generalize (⟨(L.getD k []).toArray⟩:ByteArray)=x at u a;clear f m;cases hb:pj k
   ·rw [hb] at a
    have q:=aa hb;clear hb;go_wp2_with fail;refine a.mono ?_;rintro e w1 ⟨rfl,h⟩;go_wp2_with fail
    go_roundg (n-(k+1))
    case measure=>omega
    case rel=>exact ⟨k+1,by omega,rfl,by go_num,by rw [←r.out,l.out,be _ q.out],ae s.out h⟩
   rw [hb] at a;have q:=aa hb;clear hb;go_wp2_with fail;refine a.mono ?_;rintro e w1 ⟨rfl,h⟩;go_wp2_with fail;go_ret;exact ⟨by rw [←r.out,l.out,bu _ q.out];rfl,ae s.out h⟩
  have v:k=n:=by omega
  subst v;go_wp2_with fail;go_ret;exact ⟨by rw [←r.out,Nat.sub_self];rfl,s.out⟩
theorem BD (p:List UInt8→Bool) (L:List (List UInt8)):decide (0≤findFrom (fun j=>p (L.getD j [])) L.length 0)=L.any p:=by
 rcases findFrom_cases (fun j=>p (L.getD j [])) L.length 0 with ⟨a,c⟩ | ⟨m,a,_,g,d,_⟩
 ·rw [a,decide_eq_false (by omega)]
  symm
  rw [List.any_eq_false];intro x f;obtain ⟨i,e,rfl⟩:=List.getElem_of_mem f;have:=c i (zU) (by omega)
  simp only [List.getD,zX e,Option.getD_some] at this
  simp [this]
 rw [a,decide_eq_true (by omega)]
 symm
 rw [List.any_eq_true];have b:m<L.length:=by omega
 refine ⟨L[m],List.getElem_mem b,?_⟩
 simpa only [List.getD,zX b,Option.getD_some] using d
theorem yS (F:Nat) (cap:Array Value) (p:List UInt8→Bool) (a:∀ (args:Array Value) (w:World),(callFunc F args).run Tryz.prog w=.ok (.enter F args) w) (A:Option Addr) (c:Nat) (L:List (List UInt8)) (w:World) (g:L.length≤200) (f:gN w A c L)
  (d:∀ (x:List UInt8) (w':World),Bl w w'→Calls Tryz.prog F (#[.string ⟨x.toArray⟩] ++ cap) w' fun e w''=>e=.returned (.bool (p x))∧Bl w' w'') :
  Rt 233 #[.slice A L.length c,.func (.func F) #[] cap] w (.bool (L.any p)):=by
 have h:=xy F cap p a A c L w g f d;rw [←BD];generalize findFrom (fun j=>p (L.getD j [])) L.length 0=r at *
 clear d f
 go_enter Tryz.func233,Tryz.ntmps233
 go_wp2_with fail;refine h.mono ?_;rintro e w1 ⟨rfl,b⟩;go_wp2_with fail;go_ret;exact ⟨rfl,b⟩
def JS (d:Dm) (q:Nat) (w:World):Prop := ∀ (s:ByteArray) (w':World),Bl w w'→Calls Tryz.prog 201 #[.string s,.pointer (some ⟨q,0,none⟩)] w' fun e w''=>e=.returned (.int .i64 (whL d s.data.toList))∧Bl w' w''
theorem JS.later {d:Dm} {q:Nat} {w w1:World} (h:JS d q w) (b:Bl w w1):JS d q w1:=fun s w' a=>h s w' (ae b a)
def GZ (q:Nat):Value:=.func (.func 201) #[] #[.pointer (some ⟨q,0,none⟩)]
theorem B6 (args:Array Value) (w:World):(callFunc 234 args).run Tryz.prog w=.ok (.enter 234 args) w:=by simp [go_sem]
theorem Dk (d:Dm) (q r:Nat) (x:List UInt8) (w:World) (b:JS d q w) (c:w.cell? ⟨r,0,none⟩=some (GZ q)):Rt 234 #[.string ⟨x.toArray⟩,.pointer (some ⟨r,0,none⟩)] w (.bool (decide (whL d x<0))):=by
 have h:=b ⟨x.toArray⟩ w (zS);rw [show (⟨x.toArray⟩:ByteArray).data.toList=x by simp] at h
 generalize whL d x=r1 at *;generalize (⟨x.toArray⟩:ByteArray)=s at *;unfold GZ at c;clear b
 go_enter Tryz.func234,Tryz.ntmps234
 go_wp2_with fail;refine h.mono ?_;rintro e w1 ⟨rfl,a⟩;go_wp2_with fail;go_ret;exact ⟨rfl,a⟩
def yD (d:Dm) (s:ByteArray):Int:=if prsE s≠0 then prsE s else if (dr (bI s) (bI s).length).any (fun nm=>decide (whL d nm<0))=true then 5 else 0
def rfL (d:Dm) (s:ByteArray):List Int:=if yD d s=0 then ((aX (bI s)).map (whL d)).mergeSort (fun x y=>decide (x≤y)) else []
theorem rf0 {d:Dm} {s:ByteArray} (h:prsE s≠0):yD d s=prsE s∧rfL d s=[]:=by
 have e:yD d s=prsE s:=by unfold yD;rw [if_pos h]
 exact ⟨e,by unfold rfL;rw [e,if_neg h]⟩
theorem tI {l:List Nd} (h:aA l=0) (p:List UInt8→Bool):(aX l).any p=(dr l l.length).any p:=by
 obtain ⟨-,c⟩:=jP h;rw [Bool.eq_iff_iff,List.any_eq_true,List.any_eq_true]
 constructor
 ·rintro ⟨x,b,a⟩;exact ⟨x,(c x).1 b,a⟩
 rintro ⟨x,b,a⟩;exact ⟨x,(c x).2 b,a⟩
theorem rf1 {d:Dm} {s:ByteArray} (h:prsE s=0) (a:(aX (bI s)).any (fun nm=>decide (whL d nm<0))=true):yD d s=5∧rfL d s=[]:=by
 rw [tI (dN h)] at a;have e:yD d s=5:=by unfold yD;rw [if_neg (by simpa using h),if_pos a]
 exact ⟨e,by unfold rfL;rw [e,if_neg (by decide)]⟩
theorem KY {d:Dm} {s:ByteArray} (h:prsE s=0) (a:(aX (bI s)).any (fun nm=>decide (whL d nm<0))=false):yD d s=0∧rfL d s=((aX (bI s)).map (whL d)).mergeSort (fun x y=>decide (x≤y)):=by
 rw [tI (dN h)] at a;have e:yD d s=0:=by unfold yD;rw [if_neg (by simpa using h),if_neg (by rw [a];decide)]
 exact ⟨e,by unfold rfL;rw [if_pos e]⟩
theorem pO {l:List Nd} (h:aA l=0):(aX l).length≤30:=by
 obtain ⟨-,a,-⟩:=dD h;unfold aX;rw [if_pos h];refine zV (mT _) ?_;rw [List.length_mergeSort];exact zV (AT _ _) a
theorem vu {w:World} {g k:Nat} {d:Array Int} (h:k≠g):(putRow (Value.int .i64) w g 0 d).heap[k]?=w.heap[k]?:=by
 unfold putRow Sort.mapBlock;simp only [Array.getElem?_modify];rw [if_neg (fun e=>h e.symm)]
theorem ip {w0 w:World} {g n:Nat} {d:Array Int} {os:Array Obj} (h:Bl w0 w) (b:w0.heap.size≤g):Bl w0 (grow (putRow (Value.int .i64) (Sort.ahead w n) g 0 d) os):=by
 refine ⟨h.os,h.tape,h.output,by have:=h.size;simp;omega,fun k a=>?_⟩
 have c:=h.size;rw [Sort.heap_grow_old _ _ (by simp;omega),vu (by omega)]
 exact h.block k a
theorem nt {w:World} {g n c:Nat} {zs ys:List Int} {a:Array Value} {fr:Nat×Nat} {os:Array Obj} (k:w.heap[g]?=some (.cells a 3 fr)) (l:Holds (Value.int .i64) w g 0 zs.toArray) (o:ys.length=zs.length) (p:zs.length≤c) (e:c≤9223372036854775807) :
  aR (grow (putRow (Value.int .i64) (Sort.ahead w n) g 0 ys.toArray) os) (some ⟨g,0,none⟩) c ys:=by
 have b:g<w.heap.size:=(zY k).1;have m:(grow (putRow (Value.int .i64) (Sort.ahead w n) g 0 ys.toArray) os).heap[g]?=some (.cells (Sort.putCells (Value.int .i64) 0 ys.toArray a) 3 fr):=by
  rw [Sort.heap_grow_old _ _ (by simpa using b)]
  unfold putRow Sort.mapBlock;have f:(Sort.ahead w n).heap[g]?=some (.cells a 3 fr):=k;simp only [Array.getElem?_modify,if_true,f,Option.map_some]
  rfl
 have d:=Sort.holds_grow (Value.int .i64) _ os g 0 _ (by simpa using b) (holds_putRow (Value.int .i64) (Sort.ahead w n) g 0 zs.toArray ys.toArray l (by simp [o]))
 refine ⟨by omega,e,Or.inr ⟨g,_,_,rfl,m,fun j i=>?_⟩⟩
 have h:=(d j (by simpa using i)).1
 rw [Nat.zero_add] at h;rw [h,getElem!_pos _ j (by simpa using i)]
 simp [List.getD,zX i]
theorem AQ (d:Dm) (L:List (List UInt8)) {k:Nat} (h:k<L.length):(L.take (k+1)).map (whL d)=(L.take k).map (whL d) ++ [whL d (L.getD k [])]:=by
 rw [List.take_succ_eq_append_getElem h,List.map_append,zZ,zX h]
 rfl
theorem Gj (d:Dm) (q:Nat) (s:ByteArray) (w:World) (hs:s.size≤100) (hI:JS d q w) :
  Calls Tryz.prog 200 #[.string s,GZ q] w fun e w'=>(∃ A' c',e=.returned (.tuple #[.slice A' (rfL d s).length c',errV (yD d s)])∧aR w' A' c' (rfL d s))∧Bl w w':=by
 obtain ⟨i0,hi0,hz0,hz1,hz2⟩:=info_parts Tryz.infoInt;obtain ⟨W,hW⟩:=az (w.alloc (.cells #[GZ q] 191));have P:Bl w W:=by rw [←hW];exact (zS).alloc (zT) _
 have hs0:W.heap.size=w.heap.size+1:=by rw [←hW];simp
 have V:W.cell? ⟨w.heap.size,0,none⟩=some (GZ q):=by
  have h:W.heap[w.heap.size]?=some (.cells #[GZ q] 191 (0,0)):=by rw [←hW];exact heap_alloc_new _ _
  rw [Lib.cell_of_heap h]
  rfl
 have f:=E6 s W hs;have HI:=aa hI;have t:=aa P;have HC0:=aa V;have HS0:=aa hs0;have HRf:Hid (∀ w',Bl W w'→∀ x,Rt 234 #[.string ⟨x.toArray⟩,.pointer (some ⟨w.heap.size,0,none⟩)] w' (.bool (decide (whL d x<0)))):=fun w' hB x =>
  Dk d q w.heap.size x w' (hI.later (ae P hB)) (aC hB (by show w.heap.size<_;omega) V)
 unfold GZ at hW ⊢;clear P hs0 V hI
 by_cases j:prsE s=0
 case neg =>
  obtain ⟨O,F⟩:=rf0 (d:=d) j;rw [O,F];have HE:Hid (errV (prsE s)=.iface 63 (.int .i64 (prsE s))):=ak j;rw [ak j] at f ⊢;generalize (bI s).length=m at f;generalize (jx s:Int)=at' at f;generalize prsE s=ec at f;clear j O F
  go_enter Tryz.func200,Tryz.ntmps200
  go_wp2_with fail;refine f.mono ?_;rintro e w1 ⟨⟨A1,c1,rfl,-⟩,G⟩;go_wp2_with fail
  go_ret2
  exact ⟨⟨none,0,rfl,aR.nil _ _ _ (by omega)⟩,ae t.out G⟩
 have X:=dN j;have hrl:=pO X;have HPe:=aa j;have p:=fun A c w' hN=>Ho A c (bI s) w' hN
 rw [X,errV_zero] at p;rw [j,errV_zero] at f;obtain ⟨L,hL⟩:=az (aX (bI s));have HL:=aa hL;rw [hL] at hrl p;obtain ⟨l,hl⟩:=az (bI s);rw [hl] at f p;generalize (jx s:Int)=at' at f;obtain ⟨n,hn⟩:=az L.length;have I:=aa hn;have J:Hid (∀ A c w',gt w' A c l→Calls Tryz.prog 167 #[.slice A l.length c] w' fun e w''=>(∃ A' c',e=.returned (.tuple #[.slice A' n c',.nilIface])∧gN w'' A' c' L)∧Bl w' w''):=fun A c w' h=>by rw [←hn];exact p A c w' h
 generalize l.length=m at f J;rw [hn] at hrl;have hnI:(n:Int)≤30:=by omega
 clear j X hL hl hn p
 go_enter Tryz.func200,Tryz.ntmps200
 go_wp2_with fail;refine f.mono ?_;rintro e w1 ⟨⟨A1,c1,rfl,hN1⟩,G⟩;have p:=J.out A1 c1 w1 hN1;have HB1:=aa G;clear f hN1 G;go_wp2_with fail;refine p.mono ?_;rintro e w2 ⟨⟨A2,c2,rfl,R⟩,hb2⟩;have HB2:=aa (ae HB1.out hb2);have HS2:=aa R;have H:=yS 234 #[.pointer (some ⟨w.heap.size,0,none⟩)] (fun x=>decide (whL d x<0)) B6 A2 c2 L w2 (by have:=I.out;omega) R fun x w' hB=>HRf.out w' (ae HB2.out hB) x
 rw [I.out] at H;obtain ⟨ra,Y⟩:=az (L.any (fun x=>decide (whL d x<0)))
 have HRa:=aa Y;rw [Y] at H;clear p hb2 R Y;go_wp2_with fail;refine H.mono ?_;rintro e w3 ⟨rfl,T⟩;have u:=aa (ae HB2.out T);have HS3:=aa (HS2.out.later T);clear H T;cases ra
 case true =>
  go_wp2_with fail
  go_ret2
  obtain ⟨O,F⟩:=rf1 (d:=d) HPe.out (by rw [HL.out];exact HRa.out)
  rw [O,F];exact ⟨⟨none,0,rfl,aR.nil _ _ _ (by omega)⟩,ae t.out u.out⟩
 go_wp2_with fail
 go_loopg [10,36] n (fun g s10 s36 wr => ∃ (k:Nat) (v:Value),k≤n∧g=n-k∧s36=.int .i64 k∧v=s10∧wr.ownsRow w3.heap.size 3 1 v k (aE ((L.take k).map (whL d)))∧Bl w3 wr)
 case atStart=>exact ⟨0,_,zU,rfl,rfl,rfl,World.ownsRow_nil _ _ _ _,zS⟩
 case round =>
  obtain ⟨k,v,hk,rfl,rfl,rfl,hO,i⟩:=hrel;have HO:=aa hO;have HBw:=aa i
  by_cases hlt:k<n
  ·have hki:(k:Int)<(n:Int):=by omega
   obtain ⟨hcS,-,hS0 | ⟨b,o,rfl,hbS,hcl⟩⟩:=HS3.out.later i
   ·have:=I.out;rw [hS0] at this;simp at this;omega
   have cx:=hcl k (by rw [I.out];exact hlt)
   rw [I.out] at hcS;have HNx:Hid ((L.take (k+1)).map (whL d)=(L.take k).map (whL d) ++ [whL d (L.getD k [])]):=AQ d L (by rw [I.out];exact hlt)
   have a:=HI.out ⟨(L.getD k []).toArray⟩ wr (ae t.out (ae u.out i));rw [show (⟨(L.getD k []).toArray⟩:ByteArray).data.toList=L.getD k [] by simp] at a
   have S:=ae u.out i;have cb:wr.cell? ⟨w.heap.size,0,none⟩=some (GZ q):=aC S (by show w.heap.size<_;rw [HS0.out];omega) HC0.out
   have hbz:w.heap.size<wr.heap.size:=by have:=S.size;rw [HS0.out] at this;omega
   unfold GZ at cb;generalize whL d (L.getD k [])=y at a HNx;generalize (⟨(L.getD k []).toArray⟩:ByteArray)=x at cx a;clear hcl hO i S;go_wp2_with fail;refine a.mono ?_;rintro e w4 ⟨rfl,U⟩;have Q:Bl w3 w4:=ae HBw.out U;have M:=aa Q;have HO4:Hid (w4.ownsRow w3.heap.size 3 1 v k (aE ((L.take k).map (whL d)))):=an HO.out U;have hsz:=Q.size;clear U a Q
   go_wp2_with (at_builtin;refine wpList_append_own _ rfl _ _ 26 rfl w3.heap.size 3 i0 (.int .i64 0) 1 8 Tryz.underlying26 hi0 hz0 hz1 hz2 rfl (by decide) _ _ _ rfl (HO4.out.alloc _) ⟨w4.heap.size,0,none⟩ 1 1 [.int .i64 y] rfl rfl bz dG (by unfold maxLen;omega) (by omega) (by simp;omega) ?_)
   intro v' w5 E D _;have HB5:Hid (Bl w3 w5):=bD M.out HO4.out D;have HO5:Hid (w5.ownsRow w3.heap.size 3 1 v' (k+1) (aE ((L.take (k+1)).map (whL d)))):=by
    show World.ownsRow ..
    rw [HNx.out,mapI_snoc,List.map_take];exact E
   clear E D;go_wp2_with fail
   go_roundg (n-(k+1))
   case measure=>omega
   case rel=>exact ⟨k+1,_,by omega,rfl,by go_num,rfl,HO5.out,HB5.out⟩
  have hke:k=n:=by omega
  subst hke;have hL0:L.take k=L:=List.take_of_length_le (by rw [I.out];exact zT)
  obtain ⟨O,F⟩:=KY (d:=d) HPe.out (by rw [HL.out];exact HRa.out)
  rw [HL.out] at F;have HE1:=aa O;have r:=hO;rw [hL0] at r;obtain ⟨zs,u9⟩:=az (L.map (whL d));have B:zs.length=k:=by rw [←u9,List.length_map];exact I.out
  rw [u9] at F r;have N:=aa F;have HZl:=aa B;clear hO HO hL0 O F u9
  by_cases hz:v=.slice none 0 0
  ·subst hz
   have hk0:k=0:=by
    rcases r.2 with ⟨_,h⟩ | ⟨g,c,C,h,_⟩
    ·exact h
    cases h
   subst hk0;have HZ0:Hid (rfL d s=[]):=by
    show _=_
    rw [N.out,List.eq_nil_of_length_eq_zero B,List.mergeSort_nil]
   have z:=Any.slices_Sort_int_none Tryz.lays189 none 0 wr;clear r i B;go_wp2_with fail;refine Calls.mono z ?_;rintro e w4 ⟨rfl,rfl⟩;go_wp2_with fail
   go_ret2
   rw [HE1.out,HZ0.out];exact ⟨⟨none,0,rfl,aR.nil _ _ _ (by omega)⟩,ae t.out (ae u.out HBw.out)⟩
  obtain ⟨g,c,hv,hgb,hgl,hnc,hcm,-,hH⟩:=Lib.holds_of_ownsRow (enc:=Value.int .i64) (zs:=zs) r hz;subst hv;obtain ⟨C,hg⟩:∃ C:Array Value,wr.heap[g]?=some (.cells C 3 (0,0)):=by
   rcases r.2 with ⟨h,_⟩ | ⟨g',c',C,h,_,hg,_⟩
   ·cases h
   cases h;exact ⟨C,hg⟩
  have z:=Any.slices_Sort_int Tryz.lays189 g 0 c zs wr hH hgl (by omega)
  rw [B] at z;have HT:Hid (∀ K os,aR (grow (putRow (Value.int .i64) (Sort.ahead wr K) g 0 (zs.mergeSort fun x y=>decide (x≤y)).toArray) os) (some ⟨g,0,none⟩) c (rfL d s)):=fun K os=>by
   rw [N.out];exact nt hg hH (by rw [List.length_mergeSort]) (by omega) (by unfold maxLen at hcm;omega)
  have HBs:Hid (∀ K os,Bl w (grow (putRow (Value.int .i64) (Sort.ahead wr K) g 0 (zs.mergeSort fun x y=>decide (x≤y)).toArray) os)):=fun K os=>by
   have hBW:=ae u.out i;have h0:=ae t.out hBW;refine ip h0 ?_;have:=t.out.size;have:=u.out.size
   omega
  have HLl:Hid ((rfL d s).length=k):=by show _=_;rw [N.out,List.length_mergeSort];exact B
  generalize (zs.mergeSort fun x y=>decide (x≤y))=ys at z HT HBs
  clear r i B hH hg;go_wp2_with fail;refine Calls.mono z ?_;rintro e w4 ⟨rfl,K,os,Z⟩;have HT4:Hid (aR w4 (some ⟨g,0,none⟩) c (rfL d s)):=by rw [Z];exact HT.out K os
  have M:Hid (Bl w w4):=by rw [Z];exact HBs.out K os
  clear Z z;go_wp2_with fail
  go_ret2
  rw [HE1.out];exact ⟨⟨_,c,by rw [HLl.out];rfl,HT4.out⟩,M.out⟩
end Go.Proofs.YtohgnbgamfepoaaGreatDoor
