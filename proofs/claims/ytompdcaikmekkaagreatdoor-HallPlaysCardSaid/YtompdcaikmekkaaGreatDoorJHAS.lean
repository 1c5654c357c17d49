/-
  What slices.IndexFunc and slices.DeleteFunc over ints answer where the question is told of the list's own numbers alone: the rest of a list in a row of one's own.
-/
import Derived.Test.YtompdcaikmekkaaGreatDoorJHAP
namespace Go.Proofs.YtompdcaikmekkaaGreatDoor
open Go Go.ChangeShapes Go.WideShapes Go.ChangeAt Go.RowKit
set_option maxRecDepth 20000
theorem iV {w w1 w2:World} {r:Option Nat} (h:w.grownBy w1 r) (k:w1.grownBy w2 r):w.grownBy w2 r :=
 ⟨k.os.trans h.os,k.tape.trans h.tape,k.output.trans h.output,zV h.size k.size,fun i a b=>(k.block i (zW a h.size) b).trans (h.block i a b)⟩
theorem dE {w w':World} {r:Option Nat} (h:Bl w w'):w.grownBy w' r:=⟨h.os,h.tape,h.output,h.size,fun i a _=>h.block i a⟩
theorem qo (w:World) (g:Nat) (cs:Array Value):w.grownBy (w.setRow g cs) (some g) :=
 ⟨rfl,rfl,rfl,by rw [setRow_size];exact zT,fun i _ a=>setRow_other w g i cs fun e=>a (by rw [e])⟩
theorem ki (g:Nat) (t:TypeId):∀ (vs:List Value) (o:Nat) (a:Array Value) (w:World),w.heap[g]?=some (.cells a t (0,0))→o+vs.length≤a.size→w.setCells g o vs=w.setRow g (a.toList.take o ++ vs ++ a.toList.drop (o+vs.length)).toArray
 | [],o,a,w,hg,_=>by
  simp only [World.setCells,List.append_nil,List.length_nil,Nat.add_zero,List.take_append_drop,Array.toArray_toList];rw [setRow_self w g a t (0,0) hg]
 | v :: r,o,a,w,hg,hl=>by
  simp only [List.length_cons] at hl;rw [World.setCells,setCell_eq_setRow w g o a t (0,0) v hg,ki g t r (o+1) (a.setIfInBounds o v) _ (setRow_heap w g a _ t _ hg) (by simp;omega),setRow_setRow]
  have e:=list_seg_step a.toList o v r (by simp;omega)
  congr 2
  simpa [Array.toList_setIfInBounds,Nat.add_assoc] using e
theorem xk (F:Nat) (cap:Array Value) (p:Int→Bool) (a:∀ (args:Array Value) (w:World),(callFunc F args).run Tryz.prog w=.ok (.enter F args) w) (A:Option Addr) (c:Nat) (L:List Int) (w:World) (f:L.length≤3000) (d:bW w A c L)
  (b:∀ (x:Int) (w':World),x∈L→Bl w w'→Calls Tryz.prog F (#[.int .i64 x] ++ cap) w' fun e w''=>e=.returned (.bool (p x))∧Bl w' w'') :
  Rt 130 #[.slice A L.length c,.func (.func F) #[] cap] w (.int .i64 (findFrom (fun j=>p (L.getD j 0)) L.length 0)) :=
 q9 F cap p a A c L w (by omega) (lm d) b
def rR (L:List Int) (p:Int→Bool) (i j:Nat) (cur:Array Value):Prop:=i<j∧((L.take j).filter fun x => !p x).length=i∧(∀ m,m<i→cur[m]?=some (.int .i64 (((L.take j).filter fun x => !p x).getD m 0)))∧∀ m,j≤m→m<L.length→cur[m]?=some (.int .i64 (L.getD m 0))
theorem pZ {L:List Int} {j:Nat} (h:j<L.length):L.take (j+1)=L.take j ++ [L.getD j 0]:=by
 rw [List.take_succ_eq_append_getElem h,zZ,zX h]
 rfl
theorem wE {L:List Int} {p:Int→Bool} {k:Nat} {a:Array Value} (l:k<L.length) (d:p (L.getD k 0)=true) (o:∀ j,j<k→p (L.getD j 0)=false) (c:∀ m,m<L.length→a[m]?=some (.int .i64 (L.getD m 0))):rR L p k (k+1) a:=by
 have g:(L.take k).filter (fun x => !p x)=L.take k:=by
  rw [List.filter_eq_self];intro x q;obtain ⟨j,i,rfl⟩:=List.getElem_of_mem q;have b:j<k:=by rw [List.length_take] at i;omega
  have h:=o j b;rw [zZ,zX (by omega)] at h
  simpa using h
 have e:(L.take (k+1)).filter (fun x => !p x)=L.take k:=by
  rw [pZ l,List.filter_append,g];generalize L.getD k 0=x at d ⊢
  simp [d]
 refine ⟨by omega,by rw [e,List.length_take];omega,fun m n=>?_,fun m r f=>c m f⟩
 rw [e,c m (by omega),zZ,zZ,List.getElem?_take_of_lt n]
theorem BG {L:List Int} {p:Int→Bool} {i j:Nat} {c:Array Value} (h:rR L p i j c) (l:j<L.length) (d:p (L.getD j 0)=true):rR L p i (j+1) c:=by
 have e:(L.take (j+1)).filter (fun x => !p x)=(L.take j).filter (fun x => !p x):=by
  rw [pZ l,List.filter_append];generalize L.getD j 0=x at d ⊢
  simp [d]
 obtain ⟨o,f,g,k⟩:=h;refine ⟨by omega,by rw [e];exact f,fun m n=>by rw [e];exact g m n,fun m a b=>k m (by omega) b⟩
theorem BF {L:List Int} {p:Int→Bool} {i j:Nat} {c:Array Value} (h:rR L p i j c) (n:j<L.length) (r:L.length≤c.size) (g:p (L.getD j 0)=false):rR L p (i+1) (j+1) (c.setIfInBounds i (.int .i64 (L.getD j 0))):=by
 have e:(L.take (j+1)).filter (fun x => !p x)=(L.take j).filter (fun x => !p x) ++ [L.getD j 0]:=by
  rw [pZ n,List.filter_append];generalize L.getD j 0=x at g ⊢
  simp [g]
 obtain ⟨o,f,k,l⟩:=h;generalize L.getD j 0=x at e ⊢;refine ⟨by omega,by rw [e,List.length_append,f];rfl,fun m q=>?_,fun m a b=>?_⟩
 ·rw [e,Array.getElem?_setIfInBounds]
  by_cases d:i=m
  ·rw [if_pos d,if_pos (by omega),zZ,List.getElem?_append_right (by omega),f,d]
   simp
  rw [if_neg d,k m (by omega),zZ,zZ,List.getElem?_append_left (by omega)]
 rw [Array.getElem?_setIfInBounds,if_neg (by omega)]
 exact l m (by omega) b
theorem ud {w wr:World} {g k:Nat} {v:Value} (h:w.grownBy wr (some g)):w.grownBy (wr.setCell ⟨g,k,none⟩ v) (some g):=by
 refine ⟨h.os,h.tape,h.output,by simpa [World.setCell] using h.size,fun i b a=>?_⟩
 rw [←h.block i b a];simp only [World.setCell,Array.getElem?_modify];rw [if_neg fun e=>a (by rw [e])]
theorem Es (F:Nat) (Y:Array Value) (p:Int→Bool) (E:∀ (args:Array Value) (w:World),(callFunc F args).run Tryz.prog w=.ok (.enter F args) w) (base:Nat) (v:Value) (L:List Int) (w:World) (hn:L.length≤3000) (o:w.ownsRow base 3 1 v L.length (aF L))
  (Z:∀ (x:Int) (w':World),x∈L→w.grownBy w' v.ownBlock→Calls Tryz.prog F (#[.int .i64 x] ++ Y) w' fun e w''=>e=.returned (.bool (p x))∧Bl w' w'') :
  Calls Tryz.prog 202 #[v,.func (.func F) #[] Y] w fun e w'=>(∃ A' c',e=.returned (.slice A' (L.filter fun x => !p x).length c')∧aR w' A' c' (L.filter fun x => !p x))∧w.grownBy w' v.ownBlock:=by
 obtain ⟨A,c,rfl,hI⟩:=bP o;have l:=xk F Y p E A c L w (by omega) hI.at fun x w' hx hB=>Z x w' hx (dE hB)
 rcases findFrom_cases (fun j=>p (L.getD j 0)) L.length 0 with ⟨R,h2⟩ | ⟨k,R,_,h3,h4,h5⟩
 ·have N:(L.filter fun x => !p x)=L:=by
   rw [List.filter_eq_self];intro x hx;obtain ⟨j,hj,rfl⟩:=List.getElem_of_mem hx;have h:=h2 j (zU) (by omega)
   simp only [zZ,zX hj] at h
   simpa using h
  have HF:=aa N;have HI:=aa hI;rw [R] at l;rw [N];generalize L.length=n at l;clear Z o hI R h2 N E
  go_enter Tryz.func202,Tryz.ntmps202
  go_wp2_with fail;refine l.mono ?_;rintro e w1 ⟨rfl,r⟩;go_wp2_with fail;go_ret;exact ⟨⟨A,c,rfl,HI.out.later r⟩,dE r⟩
 have hk:k<L.length:=by omega
 obtain ⟨S,U,hI0 | ⟨g,cs0,fr0,rfl,hg0,-⟩⟩:=hI
 ·rw [hI0] at hk;simp at hk
 obtain ⟨b,f,V,D⟩:∃ b:Array Value,w.heap[g]?=some (.cells b 3 (0,0))∧b.size=c∧∀ m,m<L.length→b[m]?=some (.int .i64 (L.getD m 0)):=by
  rcases o.2 with ⟨e,_⟩ | ⟨g',cap,b,e,hb,f,hc,J,hs,ht⟩
  ·cases e
  cases e;refine ⟨b,f,by omega,fun m J=>?_⟩
  have h:(aF L)[m]?=some (.int .i64 (L.getD m 0)):=by simp [aF,List.getD,zX J]
  rw [←ht,Nat.mul_one,List.getElem?_take_of_lt J] at h;rw [←h]
  simp
 have HSt:Hid (rR L p k (k+1) b):=wE hk h4 (fun j hj=>h5 j (zU) hj) D
 have HF:=aa Z;have HCs:=aa V;rw [R] at l;obtain ⟨n,K⟩:=aA L.length;have H:=aa K;have O:=aa f;rw [K] at l hk hn S ⊢;have hki:(k:Int)<(n:Int):=by omega
 have hnI:(n:Int)≤3000:=by omega
 have hne:((k:Int) == -1)=false:=by
  have:(k:Int)≠-1:=by omega
  simp only [beq_eq_false_iff_ne];exact this
 show Calls Tryz.prog 202 #[.slice (some ⟨g,0,none⟩) n c,.func (.func F) #[] Y] w fun e w'=>(∃ A' c',e=.returned (.slice A' (L.filter fun x => !p x).length c')∧aR w' A' c' (L.filter fun x => !p x))∧w.grownBy w' (some g)
 clear Z o hg0 D V R h3 h4 h5 f K
 go_enter Tryz.func202,Tryz.ntmps202
 go_wp2_with fail;refine l.mono ?_;rintro e w1 ⟨rfl,r⟩;have P:Hid (w1.heap[g]?=some (.cells b 3 (0,0))∧w.grownBy w1 (some g)):=⟨(r.block g (zY O.out).1).trans O.out,dE r⟩;clear r l;go_wp2_with fail
 go_loopg [5,6] (n-(k+1)) (fun gg s5 s6 wr => ∃ (i j:Nat) (q:Array Value),j≤n∧gg=n-j∧s5=.int .i64 i∧s6=.int .i64 j∧Hid (rR L p i j q∧q.size=c)∧wr.heap[g]?=some (.cells q 3 (0,0))∧w.grownBy wr (some g))
 case atStart=>exact ⟨k,k+1,b,by omega,rfl,rfl,by go_num,(⟨HSt.out,HCs.out⟩:_∧_),P.out.1,P.out.2⟩
 case round =>
  obtain ⟨i,j,q,hj,rfl,rfl,rfl,y,f,M⟩:=hrel;have HG:=aa f;have Q:=aa M;have hij:=y.out.1.1;have X:g<wr.heap.size:=(zY f).1;have I:=y.out.2
  by_cases C:j<n
  ·have hji:(j:Int)<(n:Int):=by omega
   have hii:(i:Int)<(n:Int):=by omega
   have cj:wr.cell? ⟨g,j,none⟩=some (.int .i64 (L.getD j 0)):=by
    rw [Lib.cell_of_heap f];exact y.out.1.2.2.2 j (zT) (by rw [H.out];exact C)
   have a:=HF.out (L.getD j 0) wr (by rw [zZ,zX (by rw [H.out];exact C)];exact List.getElem_mem _) M
   cases hp:p (L.getD j 0)
   ·rw [hp] at a
    have z:Hid (rR L p (i+1) (j+1) (q.setIfInBounds i (.int .i64 (L.getD j 0)))∧(q.setIfInBounds i (.int .i64 (L.getD j 0))).size=c):=⟨BF y.out.1 (by rw [H.out];exact C) (by rw [H.out,I];exact S) hp,by simpa using I⟩
    generalize L.getD j 0=x at cj a z;clear f M hp;go_wp2_with fail;refine a.mono ?_;rintro e w2 ⟨rfl,d⟩;have B:=(d.block g X).trans HG.out;have ci:(w2.cell? ⟨g,i,none⟩).isSome=true:=by
     rw [Lib.cell_of_heap B,Array.getElem?_eq_getElem (by omega)]
     rfl
    obtain ⟨old,hold⟩:∃ old,w2.cell? ⟨g,i,none⟩=some old:=Option.isSome_iff_exists.1 ci;have hfr:w2.frozen? ⟨g,i,none⟩=false:=Lib.frozen_of_heap B i;have G:Hid ((w2.setCell ⟨g,i,none⟩ (.int .i64 x)).heap[g]?=some (.cells (q.setIfInBounds i (.int .i64 x)) 3 (0,0))):=by
     show _=_
     simp [World.setCell,Array.getElem?_modify,B]
    have s:Hid (w.grownBy (w2.setCell ⟨g,i,none⟩ (.int .i64 x)) (some g)):=ud (iV Q.out (dE d));clear d B a ci;go_wp2_with fail
    go_roundg (n-(j+1))
    case measure=>omega
    case rel=>exact ⟨i+1,j+1,_,by omega,rfl,by go_num,by go_num,z,G.out,s.out⟩
   rw [hp] at a;have z:Hid (rR L p i (j+1) q∧q.size=c):=⟨BG y.out.1 (by rw [H.out];exact C) hp,I⟩
   generalize L.getD j 0=x at cj a;clear f M hp;go_wp2_with fail;refine a.mono ?_;rintro e w2 ⟨rfl,d⟩;have G:=aa ((d.block g X).trans HG.out);have s:Hid (w.grownBy w2 (some g)):=iV Q.out (dE d);clear d a;go_wp2_with fail
   go_roundg (n-(j+1))
   case measure=>omega
   case rel=>exact ⟨i,j+1,_,by omega,rfl,rfl,by go_num,z,G.out,s.out⟩
  have hje:j=n:=by omega
  subst hje;have hii:(i:Int)<(j:Int):=by omega
  have a:∀ ty,(Builtin.clear_ #[26] ty #[.slice (some ⟨g,0+i,none⟩) (j-i) (c-i)]).run Tryz.prog wr=.ok (.tuple #[]) (wr.setCells g (0+i) (List.replicate (j-i) (.int .i64 0))) :=
   fun ty=>Lib.run_clear_slice wr _ _ ty _ Tryz.underlying26 Tryz.zeroValue3 rfl rfl g (0+i) _ _ (by omega) (fun t ht=>by rw [Lib.cell_of_heap f,Array.getElem?_eq_getElem (by omega)];rfl) (fun t _=>Lib.frozen_of_heap f _)
  have HDn:=aa y;have u:=ki g 3 (List.replicate (j-i) (.int .i64 0)) (0+i) q wr f (by simp;omega)
  obtain ⟨W,hW⟩:=aA (wr.setCells g (0+i) (List.replicate (j-i) (Value.int .i64 0)));have HGW:Hid (w.grownBy W (some g)):=by rw [←hW,u];exact iV M (qo wr g _)
  have HTW:Hid (aR W (some ⟨g,0,none⟩) c (L.filter fun x => !p x)):=by
   have N:(L.filter fun x => !p x)=(L.take j).filter fun x => !p x:=by rw [List.take_of_length_le (by rw [H.out];exact zT)]
   have T:W.heap[g]?=some (.cells (q.toList.take (0+i) ++ List.replicate (j-i) (Value.int .i64 0) ++ q.toList.drop (0+i+(List.replicate (j-i) (Value.int .i64 0)).length)).toArray 3 (0,0)):=by rw [←hW,u];exact setRow_heap wr g q _ _ _ f
   refine ⟨by rw [N,y.out.1.2.1];omega,U,Or.inr ⟨g,_,_,rfl,T,fun m J=>?_⟩⟩
   rw [N] at J ⊢;rw [y.out.1.2.1] at J;rw [Lib.cell_of_heap T,←y.out.1.2.2.1 m J];simp only [List.getElem?_toArray];rw [List.append_assoc,List.getElem?_append_left (by simp;omega),List.getElem?_take_of_lt (by omega)]
   simp
  have HFl:Hid ((L.filter fun x => !p x).length=i):=by
   show _=_
   rw [←y.out.1.2.1,List.take_of_length_le (by rw [H.out];exact zT)]
  rw [hW,Nat.zero_add] at a;have hcI:(j:Int)≤(c:Int):=by omega
  clear f M u hW;go_wp2;go_ret;exact ⟨⟨some ⟨g,0,none⟩,c,by rw [HFl.out];rfl,HTW.out⟩,HGW.out⟩
end Go.Proofs.YtompdcaikmekkaaGreatDoor
namespace Go.Proofs.YtompdcaikmekkaaGreatDoor
open Go.ChangeShapes Go.WideShapes Go.ChangeAt Go.RowKit
open Go.Sort (putRow Holds grow holds_putRow)
set_option maxRecDepth 20000
theorem lK (d:Dm) (s:ByteArray):findFrom (fun j=>same (d.mem j).name s) d.n 0=whL d s.data.toList:=by
 unfold whL;rw [Array.toArray_toList]
theorem IY:dt 200:=fun args w=>by simp [callFunc,Tryz.func200];rfl
theorem G8 (m:Mem) (s:ByteArray) (q:Nat) (w:World) (a:q<w.heap.size) (h:w.cell? ⟨q,0,none⟩=some (.string s)):Rt 200 #[qq m,.pointer (some ⟨q,0,none⟩)] w (.bool (same m.name s)):=by
 unfold qq
 go_enter Tryz.func200,Tryz.ntmps200
 go_wp2_with fail;go_ret;exact ⟨by simp [same],by go_grown⟩
theorem I0 (d:Dm) (b o cap q:Nat) (s:ByteArray) (w:World) (v:d.n≤12) (p:b7 w b o d.n d.mem) (x:q<w.heap.size) (t:w.cell? ⟨q,2,none⟩=some (.slice (some ⟨b,o,none⟩) d.n cap)) :
  Rt 199 #[.string s,.pointer (some ⟨q,0,none⟩)] w (.int .i64 (whL d s.data.toList)):=by
 obtain ⟨W,k⟩:=aA (w.alloc (.cells #[.string s] 9));have a:Bl w W:=by rw [←k];exact (zS).alloc (zT) _
 have m:W.heap.size=w.heap.size+1:=by rw [←k];simp
 have f:W.cell? ⟨w.heap.size,0,none⟩=some (.string s):=by
  have h:W.heap[w.heap.size]?=some (.cells #[.string s] 9 (0,0)):=by rw [←k];exact heap_alloc_new _ _
  rw [Lib.cell_of_heap h]
  rfl
 have u:=aD a x t;have c:=kw 200 w.heap.size IY b o d.n cap d.mem (fun j=>same (d.mem j).name s) W v (p.later a) (fun j w' _ g=>G8 (d.mem j) s w.heap.size w' (by have:=g.size;omega) (aD g (by show w.heap.size<_;omega) f))
 rw [lK] at c;generalize whL d s.data.toList=r at c ⊢;have i:=aa a;clear p t a m f
 go_enter Tryz.func199,Tryz.ntmps199
 go_wp2_with fail;refine c.mono ?_;rintro e w1 ⟨rfl,l⟩;go_wp2_with fail;go_ret;exact ⟨rfl,ae i.out l⟩
theorem xm (F:Nat) (cap:Array Value) (p:List UInt8→Bool) (C:∀ (args:Array Value) (w:World),(callFunc F args).run Tryz.prog w=.ok (.enter F args) w) (A:Option Addr) (c:Nat) (L:List (List UInt8)) (w:World) (M:L.length≤200) (I:gJ w A c L)
  (B:∀ (x:List UInt8) (w':World),Bl w w'→Calls Tryz.prog F (#[.string ⟨x.toArray⟩] ++ cap) w' fun e w''=>e=.returned (.bool (p x))∧Bl w' w'') :
  Rt 251 #[.slice A L.length c,.func (.func F) #[] cap] w (.int .i64 (findFrom (fun j=>p (L.getD j [])) L.length 0)):=by
 obtain ⟨J,-,H | ⟨b,o,rfl,t,d⟩⟩:=I
 ·subst H
  simp only [List.length_nil]
  go_enter Tryz.func251,Tryz.ntmps251
  go_wp2_with fail;refine wp_loop_rounds 1 ?_;rw [rounds_succ];go_wp2_with fail;go_ret;exact ⟨rfl,zS⟩
 have z:=aa d;have E:=aa B;obtain ⟨pj,i⟩:∃ pj:Nat→Bool,pj=fun j=>p (L.getD j []):=⟨_,rfl⟩
 have G:Hid (∀ j,pj j=p (L.getD j [])):=fun j=>by rw [i]
 rw [←i];generalize hnn:L.length=n at M J z;clear d i hnn B
 go_enter Tryz.func251,Tryz.ntmps251
 go_wp2_with fail
 go_loopg [8] n (fun g s8 wr => ∃ (k:Nat),k≤n∧g=n-k∧s8=.int .i64 k∧findFrom pj (n-k) k=findFrom pj n 0∧Bl w wr)
 case atStart=>exact ⟨0,zU,rfl,rfl,rfl,zS⟩
 case round =>
  obtain ⟨k,O,rfl,rfl,D,f⟩:=hrel;have r:=aa D;have s:=aa f;clear D
  by_cases y:k<n
  ·have K:(k:Int)<(n:Int):=by omega
   have u:=aD f t (z.out k y);have N:(n:Int)≤200:=by omega
   have m:=G.out k;have l:Hid (n-k=(n-(k+1))+1):=by show _=_;omega
   have a:=E.out (L.getD k []) wr f;rw [←m] at a;generalize (⟨(L.getD k []).toArray⟩:ByteArray)=x at u a;clear f m;cases hb:pj k
   ·rw [hb] at a
    have q:=aa hb;clear hb;go_wp2_with fail;refine a.mono ?_;rintro e w1 ⟨rfl,h⟩;go_wp2_with fail
    go_roundg (n-(k+1))
    case measure=>omega
    case rel=>exact ⟨k+1,by omega,rfl,by go_num,by rw [←r.out,l.out,be _ q.out],ae s.out h⟩
   rw [hb] at a;have q:=aa hb;clear hb;go_wp2_with fail;refine a.mono ?_;rintro e w1 ⟨rfl,h⟩;go_wp2_with fail;go_ret;exact ⟨by rw [←r.out,l.out,bj _ q.out];rfl,ae s.out h⟩
  have v:k=n:=by omega
  subst v;go_wp2_with fail;go_ret;exact ⟨by rw [←r.out,Nat.sub_self];rfl,s.out⟩
theorem Bk (p:List UInt8→Bool) (L:List (List UInt8)):decide (0≤findFrom (fun j=>p (L.getD j [])) L.length 0)=L.any p:=by
 rcases findFrom_cases (fun j=>p (L.getD j [])) L.length 0 with ⟨a,c⟩ | ⟨m,a,_,g,d,_⟩
 ·rw [a,decide_eq_false (by omega)]
  symm
  rw [List.any_eq_false];intro x f;obtain ⟨i,e,rfl⟩:=List.getElem_of_mem f;have:=c i (zU) (by omega)
  simp only [List.getD,zX e,Option.getD_some] at this
  simp [this]
 rw [a,decide_eq_true (by omega)]
 symm
 rw [List.any_eq_true];have b:m<L.length:=by omega
 refine ⟨L[m],List.getElem_mem b,?_⟩
 simpa only [List.getD,zX b,Option.getD_some] using d
theorem yF (F:Nat) (cap:Array Value) (p:List UInt8→Bool) (a:∀ (args:Array Value) (w:World),(callFunc F args).run Tryz.prog w=.ok (.enter F args) w) (A:Option Addr) (c:Nat) (L:List (List UInt8)) (w:World) (g:L.length≤200) (f:gJ w A c L)
  (d:∀ (x:List UInt8) (w':World),Bl w w'→Calls Tryz.prog F (#[.string ⟨x.toArray⟩] ++ cap) w' fun e w''=>e=.returned (.bool (p x))∧Bl w' w'') :
  Rt 232 #[.slice A L.length c,.func (.func F) #[] cap] w (.bool (L.any p)):=by
 have h:=xm F cap p a A c L w g f d;rw [←Bk];generalize findFrom (fun j=>p (L.getD j [])) L.length 0=r at *
 clear d f
 go_enter Tryz.func232,Tryz.ntmps232
 go_wp2_with fail;refine h.mono ?_;rintro e w1 ⟨rfl,b⟩;go_wp2_with fail;go_ret;exact ⟨rfl,b⟩
def Jz (d:Dm) (q:Nat) (w:World):Prop := ∀ (s:ByteArray) (w':World),Bl w w'→Calls Tryz.prog 199 #[.string s,.pointer (some ⟨q,0,none⟩)] w' fun e w''=>e=.returned (.int .i64 (whL d s.data.toList))∧Bl w' w''
theorem Jz.later {d:Dm} {q:Nat} {w w1:World} (h:Jz d q w) (b:Bl w w1):Jz d q w1:=fun s w' a=>h s w' (ae b a)
def GH (q:Nat):Value:=.func (.func 199) #[] #[.pointer (some ⟨q,0,none⟩)]
theorem BM (args:Array Value) (w:World):(callFunc 233 args).run Tryz.prog w=.ok (.enter 233 args) w:=by simp [go_sem]
theorem CY (d:Dm) (q r:Nat) (x:List UInt8) (w:World) (b:Jz d q w) (c:w.cell? ⟨r,0,none⟩=some (GH q)):Rt 233 #[.string ⟨x.toArray⟩,.pointer (some ⟨r,0,none⟩)] w (.bool (decide (whL d x<0))):=by
 have h:=b ⟨x.toArray⟩ w (zS);rw [show (⟨x.toArray⟩:ByteArray).data.toList=x by simp] at h
 generalize whL d x=r1 at *;generalize (⟨x.toArray⟩:ByteArray)=s at *;unfold GH at c;clear b
 go_enter Tryz.func233,Tryz.ntmps233
 go_wp2_with fail;refine h.mono ?_;rintro e w1 ⟨rfl,a⟩;go_wp2_with fail;go_ret;exact ⟨rfl,a⟩
def yp (d:Dm) (s:ByteArray):Int:=if prsE s≠0 then prsE s else if (dq (bG s) (bG s).length).any (fun nm=>decide (whL d nm<0))=true then 5 else 0
def rfL (d:Dm) (s:ByteArray):List Int:=if yp d s=0 then ((aX (bG s)).map (whL d)).mergeSort (fun x y=>decide (x≤y)) else []
theorem rf0 {d:Dm} {s:ByteArray} (h:prsE s≠0):yp d s=prsE s∧rfL d s=[]:=by
 have e:yp d s=prsE s:=by unfold yp;rw [if_pos h]
 exact ⟨e,by unfold rfL;rw [e,if_neg h]⟩
theorem tz {l:List Nd} (h:aB l=0) (p:List UInt8→Bool):(aX l).any p=(dq l l.length).any p:=by
 obtain ⟨-,c⟩:=jJ h;rw [Bool.eq_iff_iff,List.any_eq_true,List.any_eq_true]
 constructor
 ·rintro ⟨x,b,a⟩;exact ⟨x,(c x).1 b,a⟩
 rintro ⟨x,b,a⟩;exact ⟨x,(c x).2 b,a⟩
theorem rf1 {d:Dm} {s:ByteArray} (h:prsE s=0) (a:(aX (bG s)).any (fun nm=>decide (whL d nm<0))=true):yp d s=5∧rfL d s=[]:=by
 rw [tz (dL h)] at a;have e:yp d s=5:=by unfold yp;rw [if_neg (by simpa using h),if_pos a]
 exact ⟨e,by unfold rfL;rw [e,if_neg (by decide)]⟩
theorem KE {d:Dm} {s:ByteArray} (h:prsE s=0) (a:(aX (bG s)).any (fun nm=>decide (whL d nm<0))=false):yp d s=0∧rfL d s=((aX (bG s)).map (whL d)).mergeSort (fun x y=>decide (x≤y)):=by
 rw [tz (dL h)] at a;have e:yp d s=0:=by unfold yp;rw [if_neg (by simpa using h),if_neg (by rw [a];decide)]
 exact ⟨e,by unfold rfL;rw [if_pos e]⟩
theorem pG {l:List Nd} (h:aB l=0):(aX l).length≤30:=by
 obtain ⟨-,a,-⟩:=dC h;unfold aX;rw [if_pos h];refine zV (mM _) ?_;rw [List.length_mergeSort];exact zV (Av _ _) a
theorem vj {w:World} {g k:Nat} {d:Array Int} (h:k≠g):(putRow (Value.int .i64) w g 0 d).heap[k]?=w.heap[k]?:=by
 unfold putRow Sort.mapBlock;simp only [Array.getElem?_modify];rw [if_neg (fun e=>h e.symm)]
theorem ik {w0 w:World} {g n:Nat} {d:Array Int} {os:Array Obj} (h:Bl w0 w) (b:w0.heap.size≤g):Bl w0 (grow (putRow (Value.int .i64) (Sort.ahead w n) g 0 d) os):=by
 refine ⟨h.os,h.tape,h.output,by have:=h.size;simp;omega,fun k a=>?_⟩
 have c:=h.size;rw [Sort.heap_grow_old _ _ (by simp;omega),vj (by omega)]
 exact h.block k a
theorem nf {w:World} {g n c:Nat} {zs ys:List Int} {a:Array Value} {fr:Nat×Nat} {os:Array Obj} (k:w.heap[g]?=some (.cells a 3 fr)) (l:Holds (Value.int .i64) w g 0 zs.toArray) (o:ys.length=zs.length) (p:zs.length≤c) (e:c≤9223372036854775807) :
  aR (grow (putRow (Value.int .i64) (Sort.ahead w n) g 0 ys.toArray) os) (some ⟨g,0,none⟩) c ys:=by
 have b:g<w.heap.size:=(zY k).1;have m:(grow (putRow (Value.int .i64) (Sort.ahead w n) g 0 ys.toArray) os).heap[g]?=some (.cells (Sort.putCells (Value.int .i64) 0 ys.toArray a) 3 fr):=by
  rw [Sort.heap_grow_old _ _ (by simpa using b)]
  unfold putRow Sort.mapBlock;have f:(Sort.ahead w n).heap[g]?=some (.cells a 3 fr):=k;simp only [Array.getElem?_modify,if_true,f,Option.map_some]
  rfl
 have d:=Sort.holds_grow (Value.int .i64) _ os g 0 _ (by simpa using b) (holds_putRow (Value.int .i64) (Sort.ahead w n) g 0 zs.toArray ys.toArray l (by simp [o]))
 refine ⟨by omega,e,Or.inr ⟨g,_,_,rfl,m,fun j i=>?_⟩⟩
 have h:=(d j (by simpa using i)).1
 rw [Nat.zero_add] at h;rw [h,getElem!_pos _ j (by simpa using i)]
 simp [List.getD,zX i]
theorem Af (d:Dm) (L:List (List UInt8)) {k:Nat} (h:k<L.length):(L.take (k+1)).map (whL d)=(L.take k).map (whL d) ++ [whL d (L.getD k [])]:=by
 rw [List.take_succ_eq_append_getElem h,List.map_append,zZ,zX h]
 rfl
theorem F1 (d:Dm) (q:Nat) (s:ByteArray) (w:World) (hs:s.size≤100) (hI:Jz d q w) :
  Calls Tryz.prog 198 #[.string s,GH q] w fun e w'=>(∃ A' c',e=.returned (.tuple #[.slice A' (rfL d s).length c',errV (yp d s)])∧aR w' A' c' (rfL d s))∧Bl w w':=by
 obtain ⟨i0,hi0,hz0,hz1,hz2⟩:=info_parts Tryz.infoInt;obtain ⟨W,hW⟩:=aA (w.alloc (.cells #[GH q] 190));have P:Bl w W:=by rw [←hW];exact (zS).alloc (zT) _
 have hs0:W.heap.size=w.heap.size+1:=by rw [←hW];simp
 have V:W.cell? ⟨w.heap.size,0,none⟩=some (GH q):=by
  have h:W.heap[w.heap.size]?=some (.cells #[GH q] 190 (0,0)):=by rw [←hW];exact heap_alloc_new _ _
  rw [Lib.cell_of_heap h]
  rfl
 have f:=EM s W hs;have HI:=aa hI;have t:=aa P;have HC0:=aa V;have HS0:=aa hs0;have HRf:Hid (∀ w',Bl W w'→∀ x,Rt 233 #[.string ⟨x.toArray⟩,.pointer (some ⟨w.heap.size,0,none⟩)] w' (.bool (decide (whL d x<0)))):=fun w' hB x =>
  CY d q w.heap.size x w' (hI.later (ae P hB)) (aD hB (by show w.heap.size<_;omega) V)
 unfold GH at hW ⊢;clear P hs0 V hI
 by_cases j:prsE s=0
 case neg =>
  obtain ⟨O,F⟩:=rf0 (d:=d) j;rw [O,F];have HE:Hid (errV (prsE s)=.iface 63 (.int .i64 (prsE s))):=ak j;rw [ak j] at f ⊢;generalize (bG s).length=m at f;generalize (jt s:Int)=at' at f;generalize prsE s=ec at f;clear j O F
  go_enter Tryz.func198,Tryz.ntmps198
  go_wp2_with fail;refine f.mono ?_;rintro e w1 ⟨⟨A1,c1,rfl,-⟩,G⟩;go_wp2_with fail
  go_ret2
  exact ⟨⟨none,0,rfl,aR.nil _ _ _ (by omega)⟩,ae t.out G⟩
 have X:=dL j;have hrl:=pG X;have HPe:=aa j;have p:=fun A c w' hN=>G4 A c (bG s) w' hN
 rw [X,errV_zero] at p;rw [j,errV_zero] at f;obtain ⟨L,hL⟩:=aA (aX (bG s));have HL:=aa hL;rw [hL] at hrl p;obtain ⟨l,hl⟩:=aA (bG s);rw [hl] at f p;generalize (jt s:Int)=at' at f;obtain ⟨n,hn⟩:=aA L.length;have I:=aa hn;have J:Hid (∀ A c w',gp w' A c l→Calls Tryz.prog 165 #[.slice A l.length c] w' fun e w''=>(∃ A' c',e=.returned (.tuple #[.slice A' n c',.nilIface])∧gJ w'' A' c' L)∧Bl w' w''):=fun A c w' h=>by rw [←hn];exact p A c w' h
 generalize l.length=m at f J;rw [hn] at hrl;have hnI:(n:Int)≤30:=by omega
 clear j X hL hl hn p
 go_enter Tryz.func198,Tryz.ntmps198
 go_wp2_with fail;refine f.mono ?_;rintro e w1 ⟨⟨A1,c1,rfl,hN1⟩,G⟩;have p:=J.out A1 c1 w1 hN1;have HB1:=aa G;clear f hN1 G;go_wp2_with fail;refine p.mono ?_;rintro e w2 ⟨⟨A2,c2,rfl,R⟩,hb2⟩;have HB2:=aa (ae HB1.out hb2);have HS2:=aa R;have H:=yF 233 #[.pointer (some ⟨w.heap.size,0,none⟩)] (fun x=>decide (whL d x<0)) BM A2 c2 L w2 (by have:=I.out;omega) R fun x w' hB=>HRf.out w' (ae HB2.out hB) x
 rw [I.out] at H;obtain ⟨ra,Y⟩:=aA (L.any (fun x=>decide (whL d x<0)))
 have HRa:=aa Y;rw [Y] at H;clear p hb2 R Y;go_wp2_with fail;refine H.mono ?_;rintro e w3 ⟨rfl,T⟩;have u:=aa (ae HB2.out T);have HS3:=aa (HS2.out.later T);clear H T;cases ra
 case true =>
  go_wp2_with fail
  go_ret2
  obtain ⟨O,F⟩:=rf1 (d:=d) HPe.out (by rw [HL.out];exact HRa.out)
  rw [O,F];exact ⟨⟨none,0,rfl,aR.nil _ _ _ (by omega)⟩,ae t.out u.out⟩
 go_wp2_with fail
 go_loopg [10,36] n (fun g s10 s36 wr => ∃ (k:Nat) (v:Value),k≤n∧g=n-k∧s36=.int .i64 k∧v=s10∧wr.ownsRow w3.heap.size 3 1 v k (aF ((L.take k).map (whL d)))∧Bl w3 wr)
 case atStart=>exact ⟨0,_,zU,rfl,rfl,rfl,World.ownsRow_nil _ _ _ _,zS⟩
 case round =>
  obtain ⟨k,v,hk,rfl,rfl,rfl,hO,i⟩:=hrel;have HO:=aa hO;have HBw:=aa i
  by_cases hlt:k<n
  ·have hki:(k:Int)<(n:Int):=by omega
   obtain ⟨hcS,-,hS0 | ⟨b,o,rfl,hbS,hcl⟩⟩:=HS3.out.later i
   ·have:=I.out;rw [hS0] at this;simp at this;omega
   have cx:=hcl k (by rw [I.out];exact hlt)
   rw [I.out] at hcS;have HNx:Hid ((L.take (k+1)).map (whL d)=(L.take k).map (whL d) ++ [whL d (L.getD k [])]):=Af d L (by rw [I.out];exact hlt)
   have a:=HI.out ⟨(L.getD k []).toArray⟩ wr (ae t.out (ae u.out i));rw [show (⟨(L.getD k []).toArray⟩:ByteArray).data.toList=L.getD k [] by simp] at a
   have S:=ae u.out i;have cb:wr.cell? ⟨w.heap.size,0,none⟩=some (GH q):=aD S (by show w.heap.size<_;rw [HS0.out];omega) HC0.out
   have hbz:w.heap.size<wr.heap.size:=by have:=S.size;rw [HS0.out] at this;omega
   unfold GH at cb;generalize whL d (L.getD k [])=y at a HNx;generalize (⟨(L.getD k []).toArray⟩:ByteArray)=x at cx a;clear hcl hO i S;go_wp2_with fail;refine a.mono ?_;rintro e w4 ⟨rfl,U⟩;have Q:Bl w3 w4:=ae HBw.out U;have M:=aa Q;have HO4:Hid (w4.ownsRow w3.heap.size 3 1 v k (aF ((L.take k).map (whL d)))):=ao HO.out U;have hsz:=Q.size;clear U a Q
   go_wp2_with (at_builtin;refine wpList_append_own _ rfl _ _ 26 rfl w3.heap.size 3 i0 (.int .i64 0) 1 8 Tryz.underlying26 hi0 hz0 hz1 hz2 rfl (by decide) _ _ _ rfl (HO4.out.alloc _) ⟨w4.heap.size,0,none⟩ 1 1 [.int .i64 y] rfl rfl bw dF (by unfold maxLen;omega) (by omega) (by simp;omega) ?_)
   intro v' w5 E D _;have HB5:Hid (Bl w3 w5):=bB M.out HO4.out D;have HO5:Hid (w5.ownsRow w3.heap.size 3 1 v' (k+1) (aF ((L.take (k+1)).map (whL d)))):=by
    show World.ownsRow ..
    rw [HNx.out,mapI_snoc,List.map_take];exact E
   clear E D;go_wp2_with fail
   go_roundg (n-(k+1))
   case measure=>omega
   case rel=>exact ⟨k+1,_,by omega,rfl,by go_num,rfl,HO5.out,HB5.out⟩
  have hke:k=n:=by omega
  subst hke;have hL0:L.take k=L:=List.take_of_length_le (by rw [I.out];exact zT)
  obtain ⟨O,F⟩:=KE (d:=d) HPe.out (by rw [HL.out];exact HRa.out)
  rw [HL.out] at F;have HE1:=aa O;have r:=hO;rw [hL0] at r;obtain ⟨zs,KG⟩:=aA (L.map (whL d));have B:zs.length=k:=by rw [←KG,List.length_map];exact I.out
  rw [KG] at F r;have N:=aa F;have HZl:=aa B;clear hO HO hL0 O F KG
  by_cases hz:v=.slice none 0 0
  ·subst hz
   have hk0:k=0:=by
    rcases r.2 with ⟨_,h⟩ | ⟨g,c,C,h,_⟩
    ·exact h
    cases h
   subst hk0;have HZ0:Hid (rfL d s=[]):=by
    show _=_
    rw [N.out,List.eq_nil_of_length_eq_zero B,List.mergeSort_nil]
   have z:=Any.slices_Sort_int_none Tryz.lays189 none 0 wr;clear r i B;go_wp2_with fail;refine Calls.mono z ?_;rintro e w4 ⟨rfl,rfl⟩;go_wp2_with fail
   go_ret2
   rw [HE1.out,HZ0.out];exact ⟨⟨none,0,rfl,aR.nil _ _ _ (by omega)⟩,ae t.out (ae u.out HBw.out)⟩
  obtain ⟨g,c,hv,hgb,hgl,hnc,hcm,-,hH⟩:=Lib.holds_of_ownsRow (enc:=Value.int .i64) (zs:=zs) r hz;subst hv;obtain ⟨C,hg⟩:∃ C:Array Value,wr.heap[g]?=some (.cells C 3 (0,0)):=by
   rcases r.2 with ⟨h,_⟩ | ⟨g',c',C,h,_,hg,_⟩
   ·cases h
   cases h;exact ⟨C,hg⟩
  have z:=Any.slices_Sort_int Tryz.lays189 g 0 c zs wr hH hgl (by omega)
  rw [B] at z;have HT:Hid (∀ K os,aR (grow (putRow (Value.int .i64) (Sort.ahead wr K) g 0 (zs.mergeSort fun x y=>decide (x≤y)).toArray) os) (some ⟨g,0,none⟩) c (rfL d s)):=fun K os=>by
   rw [N.out];exact nf hg hH (by rw [List.length_mergeSort]) (by omega) (by unfold maxLen at hcm;omega)
  have HBs:Hid (∀ K os,Bl w (grow (putRow (Value.int .i64) (Sort.ahead wr K) g 0 (zs.mergeSort fun x y=>decide (x≤y)).toArray) os)):=fun K os=>by
   have hBW:=ae u.out i;have h0:=ae t.out hBW;refine ik h0 ?_;have:=t.out.size;have:=u.out.size
   omega
  have HLl:Hid ((rfL d s).length=k):=by show _=_;rw [N.out,List.length_mergeSort];exact B
  generalize (zs.mergeSort fun x y=>decide (x≤y))=ys at z HT HBs
  clear r i B hH hg;go_wp2_with fail;refine Calls.mono z ?_;rintro e w4 ⟨rfl,K,os,Z⟩;have HT4:Hid (aR w4 (some ⟨g,0,none⟩) c (rfL d s)):=by rw [Z];exact HT.out K os
  have M:Hid (Bl w w4):=by rw [Z];exact HBs.out K os
  clear Z z;go_wp2_with fail
  go_ret2
  rw [HE1.out];exact ⟨⟨_,c,by rw [HLl.out];rfl,HT4.out⟩,M.out⟩
end Go.Proofs.YtompdcaikmekkaaGreatDoor
namespace Go.Proofs.YtompdcaikmekkaaGreatDoor
open Go.ChangeShapes Go.WideShapes Go.ChangeAt Go.RowKit
set_option maxRecDepth 20000
def kJ (N:List (List Int)) (i:Nat) (L:List Int) (k:Nat):Prop:=L.Nodup∧(∀ x∈L,Rch N i x)∧(∀ x∈N.getD i [],x∈L)∧∀ j,j<k→∀ y∈fy N (L.getD j 0),y∈L
theorem yr {N:List (List Int)} {i:Nat} (h:(N.getD i []).Nodup):kJ N i (N.getD i []) 0 :=
 ⟨h,fun x b=>.one (by unfold fy;simpa using b),fun _ h=>h,fun j a=>absurd a (Nat.not_lt_zero _)⟩
theorem AQ {N:List (List Int)} {i:Nat} {L:List Int} {k:Nat} (h:kJ N i L k) (a:ni N) (c:i<N.length):∀ x∈L,0≤x∧x<(N.length:Int):=fun x b=>(h.2.1 x b).inn a (by omega) (by omega)
theorem vr {N:List (List Int)} {i:Nat} {L:List Int} {k:Nat} (h:kJ N i L k) (a:ni N) (b:i<N.length):L.length≤N.length:=few _ _ h.1 (AQ h a b)
theorem F3 {N:List (List Int)} {i:Nat} {L:List Int} (h:kJ N i L L.length):∀ x,x∈L↔Rch N i x:=fun x=>by
 refine ⟨h.2.1 x,fun c=>c.closed (S:=fun y=>y∈L) (fun y a=>h.2.2.1 y (by unfold fy at a;simpa using a)) fun y a z d=>?_⟩
 obtain ⟨j,b,rfl⟩:=List.getElem_of_mem a;refine h.2.2.2 j b z ?_;rw [zZ,zX b];exact d
theorem t8 {L T:List Int} {j:Nat} (h:j<L.length):(L ++ T).getD j 0=L.getD j 0:=by
 rw [zZ,zZ,List.getElem?_append_left h]
theorem F4 {N:List (List Int)} {i:Nat} {L:List Int} {k:Nat} {x:Int} (h:kJ N i L k) (n:k≤L.length) (m:x∉L) (l:Rch N i x):kJ N i (L ++ [x]) k:=by
 refine ⟨?_,fun y c=>?_,fun y c=>List.mem_append_left _ (h.2.2.1 y c),fun j g y c=>?_⟩
 ·rw [List.nodup_append]
  refine ⟨h.1,by simp,fun a d b f e=>?_⟩
  rw [List.mem_singleton.1 f] at e;exact m (e ▸ d)
 ·rcases List.mem_append.1 c with c | c
  ·exact h.2.1 y c
  rw [List.mem_singleton.1 c];exact l
 rw [t8 (by omega)] at c
 exact List.mem_append_left _ (h.2.2.2 j g y c)
theorem C8 {N:List (List Int)} {i:Nat} {L:List Int} {k:Nat} (h:kJ N i L k) (b:∀ y∈fy N (L.getD k 0),y∈L):kJ N i L (k+1) :=
 ⟨h.1,h.2.1,h.2.2.1,fun j c y a=>by
  by_cases e:j=k
  ·rw [e] at a;exact b y a
  exact h.2.2.2 j (by omega) y a⟩
theorem fX {L:List Int} {j:Nat} (h:j<L.length):L.getD j 0∈L:=by
 rw [zZ,zX h];exact List.getElem_mem h
theorem vG (A:Option Addr) (cap:Nat) (xs:List RL) (i:Nat) (w:World) (hn:xs.length≤12) (M:i<xs.length) (hN:ni (lR xs)) (hnd:∀ x∈xs,x.p.Nodup∧x.p.length≤12) (hR:cZ w A cap xs) :
  Calls Tryz.prog 163 #[.slice A xs.length cap,.int .i64 i] w fun e w'=>(∃ A' c' L,e=.returned (.slice A' L.length c')∧bW w' A' c' L∧L.length≤12∧∀ x,x∈L↔Rch (lR xs) i x)∧Bl w w':=by
 obtain ⟨i0,hi0,hz0,hz1,hz2⟩:=info_parts Tryz.infoInt;have HR:=aa hR;have HNd:=aa hnd;have U:=aa hN;have d:Hid ((lR xs).length=xs.length):=oV xs;obtain ⟨hcap,h0 | ⟨b,rfl,hbw,o⟩,s⟩:=hR
 ·rw [h0] at M;simp at M
 have J:=o i M;have hri:=s _ (ie M);have hni:=hnd _ (ie M);have HC:=aa o;have HRw:=aa s;have HSt:Hid (kJ (lR xs) i (xs.getD i ep).p 0):=by
  have h:=yr (N:=lR xs) (i:=i) (by rw [rj];exact hni.1)
  rw [rj] at h;exact h
 have f:=xg (xs.getD i ep).A (xs.getD i ep).c (xs.getD i ep).p w hni.2 hri;obtain ⟨n,hnn⟩:=aA xs.length;have G:=aa hnn;rw [hnn] at hn M hcap ⊢;have hii:(i:Int)<(n:Int):=by omega
 have hnI:(n:Int)≤12:=by omega
 obtain ⟨pi,hpi⟩:=aA ((xs.getD i ep).p);rw [hpi] at J f HSt;generalize (xs.getD i ep).A=Ai at J f;generalize (xs.getD i ep).c=ci at J f;clear o s hnd hN hri hni hpi hnn
 go_enter Tryz.func163,Tryz.ntmps163
 go_wp2_with fail;refine f.mono ?_;rintro e w1 ⟨⟨v1,rfl,hO1⟩,hb1⟩;have HO1:=aa hO1;have HB1:=aa hb1;clear hO1 hb1 f J;go_wp2_with fail
 go_loopg [5,6] n (fun g s5 s6 wr => ∃ (k:Nat) (L:List Int),k≤L.length∧g=n-k∧s6=.int .i64 k∧Hid (kJ (lR xs) i L k)∧wr.ownsRow w.heap.size 3 1 s5 L.length (aF L)∧Bl w wr)
 case atStart=>exact ⟨0,pi,zU,rfl,rfl,HSt,HO1.out,HB1.out⟩
 case round =>
  obtain ⟨k,L,hk,rfl,rfl,HI,a,I⟩:=hrel;have HBw:=aa I;have HO:=aa a;have hLn:L.length≤n:=by rw [←G.out,←d.out];exact vr HI.out U.out (by rw [d.out,G.out];exact M)
  obtain ⟨AL,cL,rfl,KG⟩:=bP a;obtain ⟨m,hm⟩:=aA L.length;have P:=aa hm;have hmI:(m:Int)≤12:=by omega
  rw [hm] at hk hLn;rw [hm]
  by_cases hlt:k<m
  ·have hki:(k:Int)<(m:Int):=by omega
   obtain ⟨hcL,-,hL0 | ⟨bl,cs,fr,rfl,hbl,f⟩⟩:=KG
   ·rw [hL0] at hm;simp at hm;omega
   have cx:=f k (by omega)
   have hx:=AQ HI.out U.out (by rw [d.out,G.out];exact M) _ (fX (L:=L) (j:=k) (by omega))
   rw [d.out,G.out] at hx;obtain ⟨y,hy⟩:∃ y:Nat,L.getD k 0=(y:Int):=⟨(L.getD k 0).toNat,by omega⟩
   have HY:=aa hy;rw [hy] at cx hx;have hyn:y<n:=by omega
   have hyi:(y:Int)<(n:Int):=by omega
   have cy:=aD I hbw (HC.out y (by rw [G.out];exact hyn))
   have F:Hid (aR w (xs.getD y ep).A (xs.getD y ep).c (xs.getD y ep).p):=HRw.out _ (ie (by rw [G.out];exact hyn))
   have hry:=(HNd.out _ (ie (k:=y) (by rw [G.out];exact hyn))).2
   have z:Hid (fy (lR xs) (L.getD k 0)=(xs.getD y ep).p):=by
    show _=_
    rw [hy];unfold fy;rw [Int.toNat_natCast,rj]
   have HRk:Hid (Rch (lR xs) i (L.getD k 0)):=HI.out.2.1 _ (fX (by omega))
   obtain ⟨R,hRe⟩:=aA ((xs.getD y ep).p);rw [hRe] at cy F hry z;generalize (xs.getD y ep).A=Ay at cy F;generalize (xs.getD y ep).c=cy' at cy F;obtain ⟨r,hr⟩:=aA R.length;have v:=aa hr;rw [hr] at cy hry;have hrI:(r:Int)≤12:=by omega
   have hblt:bl<wr.heap.size:=(zY hbl).1;clear f hx a I hbl hy hRe hr hm;go_wp2_with fail
   go_loopg [5,28] r (fun gg s5 s28 wi => ∃ (j:Nat) (K:List Int),j≤r∧gg=r-j∧s28=.int .i64 j∧Hid (kJ (lR xs) i K k∧(∃ T,K=L ++ T)∧∀ t,t<j→R.getD t 0∈K)∧wi.ownsRow w.heap.size 3 1 s5 K.length (aF K)∧Bl w wi)
   case atStart=>exact ⟨0,L,zU,rfl,rfl,(⟨HI.out,⟨[],by simp⟩,fun t ht=>absurd ht (Nat.not_lt_zero _)⟩:_∧_∧_),by have h:=HO.out;rw [P.out] at h;rw [P.out];exact h,HBw.out⟩
   case round =>
    obtain ⟨wj,rfl⟩:∃ wj:World,wj=wr:=⟨_,rfl⟩;obtain ⟨j,K,hj,rfl,rfl,HK,a,H⟩:=hrel;have S:=aa H;have W:=aa a;have hKn:K.length≤n:=by rw [←G.out,←d.out];exact vr HK.out.1 U.out (by rw [d.out,G.out];exact M)
    obtain ⟨AK,cK,rfl,Z⟩:=bP a
    by_cases hjl:j<r
    ·have hji:(j:Int)<(r:Int):=by omega
     obtain ⟨hcR,-,hR0 | ⟨br,csr,frr,rfl,hbr,hcr⟩⟩:=F.out.later H
     ·have:=v.out;rw [hR0] at this;simp at this;omega
     have cz:=hcr j (by rw [v.out];exact hjl)
     have hbrl:br<wj.heap.size:=(zY hbr).1;rw [v.out] at hcR;have hcRi:(r:Int)≤(cy':Int):=by omega
     obtain ⟨x,hx⟩:=aA (R.getD j 0);have X:=aa hx;rw [hx] at cz;have q:=jZ AK cK K x wj (by omega) Z.at
     obtain ⟨mk,O⟩:=aA K.length;have D:=aa O;have HKn:Hid (mk≤n):=by show _≤_;omega
     rw [O] at q hKn;rw [O];clear hcr hbr a H Z hx O
     by_cases u:x∈K
     ·have hb:nA K x=true:=by unfold nA;exact decide_eq_true u
      rw [hb] at q;have V:Hid (kJ (lR xs) i K k∧(∃ T,K=L ++ T)∧∀ t,t<j+1→R.getD t 0∈K):=⟨HK.out.1,HK.out.2.1,fun t ht=>by
       by_cases e:t=j
       ·rw [e,X.out];exact u
       exact HK.out.2.2 t (by omega)⟩
      clear hb u;go_wp2_with fail;refine q.mono ?_;rintro e w2 ⟨rfl,l⟩;have Q:=aa (ae S.out l);have E:Hid (w2.ownsRow w.heap.size 3 1 (.slice AK mk cK) K.length (aF K)):=by have h:=ao W.out l;rw [D.out] at h;show World.ownsRow ..;rw [D.out];exact h
      clear l q;go_wp2_with fail
      go_roundg (r-(j+1))
      case measure=>omega
      case rel=>exact ⟨j+1,K,by omega,rfl,by go_num,V,E.out,Q.out⟩
     have hb:nA K x=false:=by unfold nA;exact decide_eq_false u
     rw [hb] at q;have V:Hid (kJ (lR xs) i (K ++ [x]) k∧(∃ T,K ++ [x]=L ++ T)∧∀ t,t<j+1→R.getD t 0∈K ++ [x]):=by
      obtain ⟨hI,⟨T,hT⟩,hA⟩:=HK.out;refine ⟨F4 hI ?_ u ?_,⟨T ++ [x],by rw [hT,List.append_assoc]⟩,fun t ht=>?_⟩
      ·rw [hT,List.length_append,P.out];omega
      ·refine HRk.out.snoc ?_
       rw [z.out,←X.out];exact fX (by rw [v.out];exact hjl)
      by_cases e:t=j
      ·rw [e,X.out];simp
      exact List.mem_append_left _ (hA t (by omega))
     clear hb u;go_wp2_with fail;refine q.mono ?_;rintro e w2 ⟨rfl,l⟩;have Y:Bl w w2:=ae S.out l;have Q:=aa Y;have E:Hid (w2.ownsRow w.heap.size 3 1 (.slice AK mk cK) mk (aF K)):=by have h:=ao W.out l;rw [D.out] at h;exact h
     have hsz:=Y.size;clear l q Y
     go_wp2_with (at_builtin;refine wpList_append_own _ rfl _ _ 26 rfl w.heap.size 3 i0 (.int .i64 0) 1 8 Tryz.underlying26 hi0 hz0 hz1 hz2 rfl (by decide) _ _ _ rfl (E.out.alloc _) ⟨w2.heap.size,0,none⟩ 1 1 [.int .i64 x] rfl rfl bw dF (by have:=HKn.out;unfold maxLen;omega) (by have:=HKn.out;omega) (by simp;omega) ?_)
     intro v' w3 C B _;have HB3:Hid (Bl w w3):=bB Q.out E.out B;have HO3:Hid (w3.ownsRow w.heap.size 3 1 v' (K ++ [x]).length (aF (K ++ [x]))):=by
      show World.ownsRow ..
      rw [mapI_snoc,List.length_append,D.out];exact C
     clear C B;go_wp2_with fail
     go_roundg (r-(j+1))
     case measure=>omega
     case rel=>exact ⟨j+1,K ++ [x],by omega,rfl,by go_num,V,HO3.out,HB3.out⟩
    have hje:j=r:=by omega
    subst hje;have HI2:Hid (k+1≤K.length∧kJ (lR xs) i K (k+1)):=by
     obtain ⟨hI,⟨T,hT⟩,hA⟩:=HK.out;refine ⟨by rw [hT,List.length_append,P.out];omega,C8 hI fun y' hy'=>?_⟩
     rw [hT,t8 (by rw [P.out];exact hlt),z.out] at hy'
     obtain ⟨t,ht,rfl⟩:=List.getElem_of_mem hy';have h:=hA t (by rw [←v.out];exact ht)
     rw [zZ,zX ht] at h;exact h
    clear a H Z hKn;go_wp2_with fail
    go_roundg (n-(k+1))
    case measure=>omega
    case rel=>exact ⟨k+1,K,HI2.out.1,rfl,by go_num,HI2.out.2,W.out,S.out⟩
  have hke:k=m:=by omega
  subst hke;have HEnd:Hid (∀ x,x∈L↔Rch (lR xs) i x):=F3 (by rw [P.out];exact HI.out)
  have HIL:=aa KG.at;clear a I KG hm;go_wp2_with fail;go_ret;exact ⟨⟨AL,cL,L,by rw [P.out];rfl,HIL.out,by rw [P.out];omega,HEnd.out⟩,HBw.out⟩
end Go.Proofs.YtompdcaikmekkaaGreatDoor
