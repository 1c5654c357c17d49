/- An edit of entries, as -/
import Derived.Test.YtohgnbgamfepoaaGreatDoorJHBJ
namespace Go.Proofs.YtohgnbgamfepoaaGreatDoor
open ChangeShapes WideShapes ChangeAt RowKit
set_option maxRecDepth 99999
set_option maxHeartbeats 0
def fJ (w:World) (A:Option Addr) (c:Nat) (zs:List EnL):Prop:=b7 w A c zs∧(A=none→c=0)
theorem fJ.later {w w':World} {A:Option Addr} {c:Nat} {zs:List EnL} (h:fJ w A c zs) (a:Bl w w'):fJ w' A c zs:=⟨h.1.later a,h.2⟩
theorem lc {w:World} {base:Nat} {v:Value} {zs:List EnL} (h:w.ownsRow base 83 2 v zs.length (ah zs)) (l:∀ x∈zs,aZ w x.A x.c x.e.pl):∃ A c,v=.slice A zs.length c∧fJ w A c zs:=by
 rcases h.2 with ⟨rfl,a⟩ | ⟨g,cap,b,rfl,m,f,d,k,_,_⟩
 ·refine ⟨none,0,by rw [a],⟨by omega,by decide,Or.inl (List.eq_nil_of_length_eq_zero a)⟩,fun _=>rfl⟩
 refine ⟨_,cap,rfl,⟨d,by unfold maxLen at k;omega,Or.inr ⟨g,0,rfl,(zY f).1,fun j u i=>?_,l⟩⟩,fun h=>by cases h⟩
 have y:=h.cells (g:=g) rfl j u i;rw [aK] at y;exact y
theorem gG {w w' W:World} {base:Nat} {v:Value} {n:Nat} {zs:List Value} (b:Below base W w) (d:base≤w.heap.size) (a:w.ownsRow base 83 2 v n zs) (c:w.grownBy w' v.ownBlock):Below base W w' :=
 b.grown c d fun k e=>(a.lt k e).1
def zD (w:World) (E:Int) (l:List En) (e:Ending) (w':World):Prop:=(∃ B c zs,e=.returned (.tuple #[.slice B zs.length c,.int .i64 E])∧fJ w' B c zs∧lE zs=pF E l)∧Bl w w'
structure EditCalls (W:World) (A0:Option Addr) (cap n:Nat) (AE:Option Addr) (nx ce:Nat) (Ax:Option Addr) (m cx:Nat) (SE:Int) (cnt:Nat) (has lf:Bool):Prop where
 place:∀ w',Bl W w'→Calls Tryz.prog 16 #[.agg #[.slice A0 n cap],.slice Ax m cx] w' fun e w''=>e=.returned (.int .i64 SE)∧Bl w' w''
 find:SE=0→∀ w',Bl W w'→Calls Tryz.prog 47 #[.slice AE nx ce,.slice Ax m cx] w' fun e w''=>e=.returned (.tuple #[.int .i64 (cnt:Nat),.bool has])∧Bl w' w''
 leaf:SE=0→∀ w',Bl W w'→Calls Tryz.prog 45 #[.agg #[.slice A0 n cap],.slice Ax m cx] w' fun e w''=>e=.returned (.bool lf)∧Bl w' w''
theorem aq (w:World) (A0:Option Addr) (n cap:Nat) (A:Option Addr) (m c:Nat) (N:Int) (a:Bool):(aM w A0 n cap A m c N a).heap.size=w.heap.size+2:=by unfold aM;rw [yj,av]
theorem gf (w:World) (A0:Option Addr) (n cap:Nat) (A:Option Addr) (m c:Nat) (N:Int) (a:Bool):(aM w A0 n cap A m c N a).cell? ⟨w.heap.size,0,none⟩=some (.slice A0 n cap) :=
 ((jw (ax w A0 n cap 24) A m c N a).cell (p:=⟨w.heap.size,0,none⟩) (by show w.heap.size<_;rw [av];omega)).trans (aH ..)
theorem aQ (w:World) (A0:Option Addr) (n cap:Nat) (A:Option Addr) (m c:Nat) (N:Int) (a:Bool):(aM w A0 n cap A m c N a).cell? ⟨w.heap.size+1,0,none⟩=some (.slice A m c)∧(aM w A0 n cap A m c N a).cell? ⟨w.heap.size+1,1,none⟩=some (.int .i64 N)∧(aM w A0 n cap A m c N a).cell? ⟨w.heap.size+1,2,none⟩=some (.bool a):=by
 have h:=heap_alloc_new (ax w A0 n cap 24) (.cells #[.slice A m c,.int .i64 N,.bool a] 41);rw [av] at h;exact ⟨by rw [aM,ownEd,Lib.cell_of_heap h];rfl,by rw [aM,ownEd,Lib.cell_of_heap h];rfl,by rw [aM,ownEd,Lib.cell_of_heap h];rfl⟩
theorem Df (A0:Option Addr) (cap n:Nat) (AE:Option Addr) (nx O:Nat) (Ax:Option Addr) (m d:Nat) (N:Int) (H:Bool) (SE:Int) (I:Nat) (F lf:Bool) (E:Int) (w:World) (M:EditCalls (aM w A0 n cap Ax m d N H) A0 cap n AE nx O Ax m d SE I F lf)
  (r:E=if SE≠0 then SE else if H=true then (if F=true then 0 else 5) else if lf=false then 6 else if cX N=false then 1 else 0) (C:E≠0) :
  Rt 23 #[.agg #[.slice A0 n cap],.slice AE nx O,.agg #[.slice Ax m d,.int .i64 N,.bool H]] w (.tuple #[.slice none 0 0,.int .i64 E]):=by
 have z:=aa M;have t:Hid (Bl w (aM w A0 n cap Ax m d N H)):=dB ..;have A:=M.place _ (zS);clear M
 by_cases D:SE=0
 ·subst D
  rw [if_neg (by simp)] at r
  cases H
  ·rw [if_neg (by simp)] at r
   cases lf
   ·have y:=aa r
    clear r C
    go_enter Tryz.func23,Tryz.ntmps23
    go_wp2_with fail;refine A.mono ?_;rintro e w1 ⟨rfl,a⟩;have q:=aa a;have c0:=aC a (by show w.heap.size<_;rw [aq];omega) (gf w A0 n cap Ax m d N false)
    have c1:=(a.cell (p:=⟨w.heap.size+1,0,none⟩) (by show w.heap.size+1<_;rw [aq];omega)).trans (aQ w A0 n cap Ax m d N false).1
    have i:Hid (w1.cell? ⟨w.heap.size+1,1,none⟩=some (.int .i64 N)):=(a.cell (p:=⟨w.heap.size+1,1,none⟩) (by show w.heap.size+1<_;rw [aq];omega)).trans (aQ w A0 n cap Ax m d N false).2.1
    have j:Hid (w1.cell? ⟨w.heap.size+1,2,none⟩=some (.bool false)):=(a.cell (p:=⟨w.heap.size+1,2,none⟩) (by show w.heap.size+1<_;rw [aq];omega)).trans (aQ w A0 n cap Ax m d N false).2.2
    have b:w.heap.size+1<w1.heap.size:=by have:=a.size;rw [aq] at this;omega
    have g:=aa c0;have h:=aa c1;have v:=z.out.find rfl w1 a;clear a A;go_wp2_with fail;refine v.mono ?_;rintro e w2 ⟨rfl,a⟩;have f:=aa (ae q.out a);have B:w2.cell? ⟨w.heap.size,0,none⟩=some (.slice A0 n cap):=aC a (by show w.heap.size<_;omega) g.out
    have u:w2.cell? ⟨w.heap.size+1,0,none⟩=some (.slice Ax m d):=aC a b h.out;have k:=aa u;have l:Hid (w2.cell? ⟨w.heap.size+1,1,none⟩=some (.int .i64 N)):=aC a b i.out;have o:Hid (w2.cell? ⟨w.heap.size+1,2,none⟩=some (.bool false)):=aC a b j.out;have c:w.heap.size+1<w2.heap.size:=zW b a.size;have x:=z.out.leaf rfl w2 f.out;clear a v c0 c1 g h i j;go_wp2_with fail;refine x.mono ?_;rintro e w3 ⟨rfl,a⟩;have s:=aa (ae f.out a);have J:w3.cell? ⟨w.heap.size+1,0,none⟩=some (.slice Ax m d):=aC a c k.out;have K:w3.cell? ⟨w.heap.size+1,1,none⟩=some (.int .i64 N):=aC a c l.out;have L:w3.cell? ⟨w.heap.size+1,2,none⟩=some (.bool false):=aC a c o.out;have G:w.heap.size+1<w3.heap.size:=zW c a.size;clear a x B u k l o;go_wp2_with fail
    go_ret2
    rw [y.out];exact ⟨rfl,ae t.out s.out⟩
   rw [if_neg (by simp)] at r
   by_cases R:N < -1000000
   ·have y:Hid (E=1):=by show _=_;rw [r,if_pos (by simp [cX];omega)]
    clear r C
    go_enter Tryz.func23,Tryz.ntmps23
    go_wp2_with fail;refine A.mono ?_;rintro e w1 ⟨rfl,a⟩;have q:=aa a;have c0:=aC a (by show w.heap.size<_;rw [aq];omega) (gf w A0 n cap Ax m d N false)
    have c1:=(a.cell (p:=⟨w.heap.size+1,0,none⟩) (by show w.heap.size+1<_;rw [aq];omega)).trans (aQ w A0 n cap Ax m d N false).1
    have i:Hid (w1.cell? ⟨w.heap.size+1,1,none⟩=some (.int .i64 N)):=(a.cell (p:=⟨w.heap.size+1,1,none⟩) (by show w.heap.size+1<_;rw [aq];omega)).trans (aQ w A0 n cap Ax m d N false).2.1
    have j:Hid (w1.cell? ⟨w.heap.size+1,2,none⟩=some (.bool false)):=(a.cell (p:=⟨w.heap.size+1,2,none⟩) (by show w.heap.size+1<_;rw [aq];omega)).trans (aQ w A0 n cap Ax m d N false).2.2
    have b:w.heap.size+1<w1.heap.size:=by have:=a.size;rw [aq] at this;omega
    have g:=aa c0;have h:=aa c1;have v:=z.out.find rfl w1 a;clear a A;go_wp2_with fail;refine v.mono ?_;rintro e w2 ⟨rfl,a⟩;have f:=aa (ae q.out a);have B:w2.cell? ⟨w.heap.size,0,none⟩=some (.slice A0 n cap):=aC a (by show w.heap.size<_;omega) g.out
    have u:w2.cell? ⟨w.heap.size+1,0,none⟩=some (.slice Ax m d):=aC a b h.out;have k:=aa u;have l:Hid (w2.cell? ⟨w.heap.size+1,1,none⟩=some (.int .i64 N)):=aC a b i.out;have o:Hid (w2.cell? ⟨w.heap.size+1,2,none⟩=some (.bool false)):=aC a b j.out;have c:w.heap.size+1<w2.heap.size:=zW b a.size;have x:=z.out.leaf rfl w2 f.out;clear a v c0 c1 g h i j;go_wp2_with fail;refine x.mono ?_;rintro e w3 ⟨rfl,a⟩;have s:=aa (ae f.out a);have J:w3.cell? ⟨w.heap.size+1,0,none⟩=some (.slice Ax m d):=aC a c k.out;have K:w3.cell? ⟨w.heap.size+1,1,none⟩=some (.int .i64 N):=aC a c l.out;have L:w3.cell? ⟨w.heap.size+1,2,none⟩=some (.bool false):=aC a c o.out;have G:w.heap.size+1<w3.heap.size:=zW c a.size;clear a x B u k l o;go_wp2_with fail
    go_ret2
    rw [y.out];exact ⟨rfl,ae t.out s.out⟩
   by_cases Q:1000000<N
   ·have y:Hid (E=1):=by show _=_;rw [r,if_pos (by simp [cX];omega)]
    clear r C
    go_enter Tryz.func23,Tryz.ntmps23
    go_wp2_with fail;refine A.mono ?_;rintro e w1 ⟨rfl,a⟩;have q:=aa a;have c0:=aC a (by show w.heap.size<_;rw [aq];omega) (gf w A0 n cap Ax m d N false)
    have c1:=(a.cell (p:=⟨w.heap.size+1,0,none⟩) (by show w.heap.size+1<_;rw [aq];omega)).trans (aQ w A0 n cap Ax m d N false).1
    have i:Hid (w1.cell? ⟨w.heap.size+1,1,none⟩=some (.int .i64 N)):=(a.cell (p:=⟨w.heap.size+1,1,none⟩) (by show w.heap.size+1<_;rw [aq];omega)).trans (aQ w A0 n cap Ax m d N false).2.1
    have j:Hid (w1.cell? ⟨w.heap.size+1,2,none⟩=some (.bool false)):=(a.cell (p:=⟨w.heap.size+1,2,none⟩) (by show w.heap.size+1<_;rw [aq];omega)).trans (aQ w A0 n cap Ax m d N false).2.2
    have b:w.heap.size+1<w1.heap.size:=by have:=a.size;rw [aq] at this;omega
    have g:=aa c0;have h:=aa c1;have v:=z.out.find rfl w1 a;clear a A;go_wp2_with fail;refine v.mono ?_;rintro e w2 ⟨rfl,a⟩;have f:=aa (ae q.out a);have B:w2.cell? ⟨w.heap.size,0,none⟩=some (.slice A0 n cap):=aC a (by show w.heap.size<_;omega) g.out
    have u:w2.cell? ⟨w.heap.size+1,0,none⟩=some (.slice Ax m d):=aC a b h.out;have k:=aa u;have l:Hid (w2.cell? ⟨w.heap.size+1,1,none⟩=some (.int .i64 N)):=aC a b i.out;have o:Hid (w2.cell? ⟨w.heap.size+1,2,none⟩=some (.bool false)):=aC a b j.out;have c:w.heap.size+1<w2.heap.size:=zW b a.size;have x:=z.out.leaf rfl w2 f.out;clear a v c0 c1 g h i j;go_wp2_with fail;refine x.mono ?_;rintro e w3 ⟨rfl,a⟩;have s:=aa (ae f.out a);have J:w3.cell? ⟨w.heap.size+1,0,none⟩=some (.slice Ax m d):=aC a c k.out;have K:w3.cell? ⟨w.heap.size+1,1,none⟩=some (.int .i64 N):=aC a c l.out;have L:w3.cell? ⟨w.heap.size+1,2,none⟩=some (.bool false):=aC a c o.out;have G:w.heap.size+1<w3.heap.size:=zW c a.size;clear a x B u k l o;go_wp2_with fail
    go_ret2
    rw [y.out];exact ⟨rfl,ae t.out s.out⟩
   exact absurd (by rw [r,if_neg (by simp [cX];omega)]) C
  rw [if_pos rfl] at r;cases F
  ·have y:=aa r
   clear r C
   go_enter Tryz.func23,Tryz.ntmps23
   go_wp2_with fail;refine A.mono ?_;rintro e w1 ⟨rfl,a⟩;have q:=aa a;have c0:=aC a (by show w.heap.size<_;rw [aq];omega) (gf w A0 n cap Ax m d N true)
   have c1:=(a.cell (p:=⟨w.heap.size+1,0,none⟩) (by show w.heap.size+1<_;rw [aq];omega)).trans (aQ w A0 n cap Ax m d N true).1
   have i:Hid (w1.cell? ⟨w.heap.size+1,1,none⟩=some (.int .i64 N)):=(a.cell (p:=⟨w.heap.size+1,1,none⟩) (by show w.heap.size+1<_;rw [aq];omega)).trans (aQ w A0 n cap Ax m d N true).2.1
   have j:Hid (w1.cell? ⟨w.heap.size+1,2,none⟩=some (.bool true)):=(a.cell (p:=⟨w.heap.size+1,2,none⟩) (by show w.heap.size+1<_;rw [aq];omega)).trans (aQ w A0 n cap Ax m d N true).2.2
   have b:w.heap.size+1<w1.heap.size:=by have:=a.size;rw [aq] at this;omega
   have g:=aa c0;have h:=aa c1;have v:=z.out.find rfl w1 a;clear a A;go_wp2_with fail;refine v.mono ?_;rintro e w2 ⟨rfl,a⟩;have f:=aa (ae q.out a);have B:w2.cell? ⟨w.heap.size,0,none⟩=some (.slice A0 n cap):=aC a (by show w.heap.size<_;omega) g.out
   have u:w2.cell? ⟨w.heap.size+1,0,none⟩=some (.slice Ax m d):=aC a b h.out;have k:=aa u;have l:Hid (w2.cell? ⟨w.heap.size+1,1,none⟩=some (.int .i64 N)):=aC a b i.out;have o:Hid (w2.cell? ⟨w.heap.size+1,2,none⟩=some (.bool true)):=aC a b j.out;have c:w.heap.size+1<w2.heap.size:=zW b a.size;have x:=z.out.leaf rfl w2 f.out;clear a v c0 c1 g h i j;go_wp2_with fail;refine x.mono ?_;rintro e w3 ⟨rfl,a⟩;have s:=aa (ae f.out a);have J:w3.cell? ⟨w.heap.size+1,0,none⟩=some (.slice Ax m d):=aC a c k.out;have K:w3.cell? ⟨w.heap.size+1,1,none⟩=some (.int .i64 N):=aC a c l.out;have L:w3.cell? ⟨w.heap.size+1,2,none⟩=some (.bool true):=aC a c o.out;have G:w.heap.size+1<w3.heap.size:=zW c a.size;clear a x B u k l o;go_wp2_with fail
   go_ret2
   rw [y.out];exact ⟨rfl,ae t.out s.out⟩
  exact absurd r C
 have y:Hid (E=SE):=by show _=_;rw [r,if_pos (by simpa using D)]
 have P:(SE == 0)=false:=by simpa using D
 clear r C z
 go_enter Tryz.func23,Tryz.ntmps23
 go_wp2_with fail;refine A.mono ?_;rintro e w1 ⟨rfl,a⟩;have q:=aa (ae t.out a);clear a;go_wp2_with fail
 go_ret2
 rw [y.out];exact ⟨rfl,q.out⟩
def eK (R:List ByteArray):List Value:=R.map Value.string
def iR (l:List Nd) (i:Nat) (R:List ByteArray):Prop:=R.length≤i∧∀ s,s∈R↔∃ j,j<i∧(l.getD j bO).op=2∧(l.getD j bO).name=s
section
variable {l:List Nd} {i:Nat} {R:List ByteArray}
theorem refs_zero:iR l 0 []:=⟨zT,fun _=>⟨fun h=>absurd h List.not_mem_nil,fun ⟨j,h,_⟩=>absurd h (Nat.not_lt_zero j)⟩⟩
theorem Dp (h:iR l i R) (c:(l.getD i bO).op≠2):iR l (i+1) R:=by
 refine ⟨by have:=h.1;omega,fun s=>(h.2 s).trans ⟨fun ⟨j,b,a⟩=>⟨j,by omega,a⟩,fun ⟨j,b,a⟩=>⟨j,?_,a⟩⟩⟩
 by_cases e:j=i
 ·subst e;exact absurd a.1 c
 omega
theorem Gk (h:iR l i R) (f:(l.getD i bO).op=2) (c:(l.getD i bO).name∈R):iR l (i+1) R:=by
 refine ⟨by have:=h.1;omega,fun s=>⟨fun d=>?_,fun ⟨j,b,a⟩=>?_⟩⟩
 ·obtain ⟨j,b,a⟩:=(h.2 s).1 d
  exact ⟨j,by omega,a⟩
 by_cases e:j=i
 ·subst e;rw [←a.2];exact c
 exact (h.2 s).2 ⟨j,by omega,a⟩
theorem lC (h:iR l i R) (f:(l.getD i bO).op=2) (k:Nat):iR l (i+1) (R.take k ++ [(l.getD i bO).name] ++ R.drop k):=by
 refine ⟨?_,fun s=>?_⟩
 ·have:=h.1
  simp only [List.length_append,List.length_take,List.length_drop,List.length_singleton]
  omega
 have a:s∈R.take k ++ [(l.getD i bO).name] ++ R.drop k↔s∈R∨s=(l.getD i bO).name:=by
  rw [List.mem_append,List.mem_append,List.mem_singleton];have d:s∈R↔s∈R.take k∨s∈R.drop k:=by rw [←List.mem_append,List.take_append_drop]
  rw [d]
  constructor
  ·rintro ((h | h) | h)
   ·exact Or.inl (Or.inl h)
   ·exact Or.inr h
   exact Or.inl (Or.inr h)
  rintro ((h | h) | h)
  ·exact Or.inl (Or.inl h)
  ·exact Or.inr h
  exact Or.inl (Or.inr h)
 rw [a,h.2 s]
 constructor
 ·rintro (⟨j,c,b⟩ | rfl)
  ·exact ⟨j,by omega,b⟩
  exact ⟨i,by omega,f,rfl⟩
 rintro ⟨j,c,b⟩
 by_cases e:j=i
 ·subst e;exact Or.inr b.2.symm
 exact Or.inl ⟨j,by omega,b⟩
end
theorem Tryz.infoStR:(Tryz.prog.info? 9).map (fun i=>(i.zero,i.size,i.bytes))=some (some (.string ⟨#[]⟩),1,16):=by kernel_rfl
theorem row_str {w:World} {base:Nat} {v:Value} {R:List ByteArray} (h:w.ownsRow base 9 1 v R.length (eK R)):(R=[]∧v=.slice none 0 0)∨∃ g cap,v=.slice (some ⟨g,0,none⟩) R.length cap∧base≤g∧g<w.heap.size∧R.length≤cap∧cap≤9223372036854775807∧∀ k,k<R.length→w.cell? ⟨g,k,none⟩=some (.string (R.getD k jj)):=by
 rcases h.2 with ⟨rfl,d⟩ | ⟨g,cap,c,rfl,j,a,e,f,m,i⟩
 ·exact Or.inl ⟨List.eq_nil_of_length_eq_zero d,rfl⟩
 refine Or.inr ⟨g,cap,rfl,j,(zY a).1,e,by unfold maxLen at f;omega,fun k l=>?_⟩
 have b:(eK R)[k]?=some (.string (R.getD k jj)):=by simp [eK,List.getD,l]
 rw [←i,List.getElem?_take,if_pos (by omega),Array.getElem?_toList] at b
 simp [World.cell?,a,b]
theorem IQ {x y:ByteArray} (h : ¬ y=x):(y.toList == x.toList)=false:=by
 rw [beq_eq_false_iff_ne];intro e;apply h;rw [Lib.toList_data,Lib.toList_data] at e;obtain ⟨b⟩:=y;obtain ⟨a⟩:=x;exact congrArg ByteArray.mk (Array.toList_inj.1 e)
theorem tb (L:List ByteArray):∀ u∈eK L,u.oneCell'=true:=by
 intro u a;obtain ⟨x,-,rfl⟩:=List.mem_map.1 a
 rfl
theorem vI {w:World} {g:Nat} {R:List ByteArray} (h:∀ j,j<R.length→w.cell? ⟨g,j,none⟩=some (.string (R.getD j jj))) (k:Nat):∀ j u,(eK (R.take k))[j]?=some u→w.cell? ((⟨g,0,none⟩:Addr).add j)=some u:=by
 intro j u a;have b:j<(R.take k).length:=by have:=(List.getElem?_eq_some_iff.1 a).1;simpa [eK] using this
 rw [List.length_take] at b;rw [eK,List.getElem?_map,List.getElem?_take,if_pos (by omega),zX (by omega)] at a
 have e:=h j (by omega)
 rw [zZ,zX (by omega)] at e
 have c:((⟨g,0,none⟩:Addr).add j)=⟨g,j,none⟩:=by rw [Addr.add_lit,Nat.zero_add]
 rw [c,e];exact a
theorem Gp {w:World} {g:Nat} {R:List ByteArray} (h:∀ j,j<R.length→w.cell? ⟨g,j,none⟩=some (.string (R.getD j jj))) (k:Nat):∀ j u,(eK (R.drop k))[j]?=some u→w.cell? ((⟨g,k,none⟩:Addr).add j)=some u:=by
 intro j u a;have b:j<(R.drop k).length:=by have:=(List.getElem?_eq_some_iff.1 a).1;simpa [eK] using this
 rw [List.length_drop] at b;rw [eK,List.getElem?_map,List.getElem?_drop,zX (by omega)] at a
 have e:=h (k+j) (by omega)
 rw [zZ,zX (by omega)] at e
 have c:((⟨g,k,none⟩:Addr).add j)=⟨g,k+j,none⟩:=by rw [Addr.add_lit]
 rw [c,e];exact a
theorem Dz (b o cap:Nat) (l:List Nd) (w:World) (h30:l.length≤30) (hN:kf w b o l) :
  Calls Tryz.prog 61 #[.slice (some ⟨b,o,none⟩) l.length cap] w fun e w'=>(∃ v R,e=.returned v∧w'.ownsRow w.heap.size 9 1 v R.length (eK R)∧iR l l.length R)∧Bl w w':=by
 obtain ⟨i0,J,T,U,V⟩:=info_parts Tryz.infoStR;have HN:=aa hN;obtain ⟨n,hn⟩:=az l.length;have HL:=aa hn;rw [hn] at h30 ⊢;have hni:(n:Int)≤30:=by omega
 clear hN hn
 go_enter Tryz.func61,Tryz.ntmps61
 go_wp2_with fail
 go_loopg [3,4] n (fun g s3 s4 wr => ∃ (i:Nat) (R:List ByteArray),i≤n∧g=n-i∧s4=.int .i64 i∧wr.ownsRow w.heap.size 9 1 s3 R.length (eK R)∧iR l i R∧Bl w wr)
 case atStart=>exact ⟨0,[],zU,rfl,rfl,World.ownsRow_nil _ _ _ _,refs_zero,zS⟩
 case round =>
  obtain ⟨i,R,hi,rfl,rfl,K,hRef,hBw⟩:=hrel;have HO:=aa K;have Z:=aa hRef;have HW:=aa hBw;have hRl:R.length≤30:=by have:=hRef.1;omega
  clear hRef hBw
  by_cases hlt:i<n
  ·have hii:(i:Int)<(n:Int):=by omega
   obtain ⟨x0,x1,x2,x3,x4⟩:=(HN.out.later HW.out).nd (k:=i) (by rw [HL.out];exact hlt)
   have E:b<wr.heap.size:=(HN.out.later HW.out).1;obtain ⟨x,hx⟩:=az (l.getD i bO);have HX:=aa hx;rw [hx] at x0 x2;clear hx x1 x3 x4
   by_cases hop:x.op=2
   ·rw [hop] at x0
    have Y:Hid ((l.getD i bO).op=2):=by show _=_;rw [HX.out];exact hop
    obtain ⟨nm,hnm⟩:=az x.name;have HNm:Hid ((l.getD i bO).name=nm):=by show _=_;rw [HX.out];exact hnm
    rw [hnm] at x2;clear hop hnm
    rcases row_str K with ⟨hR0,rfl⟩ | ⟨g,cp,rfl,hgb,hgl,hcp,hcm,K0⟩
    ·subst hR0
     clear K;go_wp2_with fail;refine wp_loop_rounds 1 ?_;rw [rounds_succ];go_wp2_with fail
     go_quiet (fail)
     obtain ⟨W1,C⟩:=az (wr.drewN nq);have hb1:Bl wr W1:=by rw [←C];exact ac (zS) _
     have A:=aa (ae HW.out hb1);have y0:=aC hb1 E x0;have y2:=aC hb1 E x2;have K2:=zW E hb1.size;rw [C];clear C hb1 x0 x2 E;go_wp2_with fail
     go_quiet (fail)
     obtain ⟨W2,D⟩:=az (W1.drewN nq);have hb2:Bl W1 W2:=by rw [←D];exact ac (zS) _
     have s:=aa (ae A.out hb2);have x0:=aC hb2 K2 y0;have x2:=aC hb2 K2 y2;have E:=zW K2 hb2.size;rw [D];clear D hb2 y0 y2 K2
     go_wp2_with (at_builtin;first | (refine wpList_append_own_none rfl _ _ 120 rfl w.heap.size 9 i0 1 Tryz.underlying120 J _ 0 [] rfl (World.ownsRow_nil _ _ _ _) rfl ?_) | (refine wpList_append_own_at _ rfl _ _ 120 rfl w.heap.size 9 i0 _ 1 16 Tryz.underlying120 J T U V rfl (by decide) _ 0 [] rfl (World.ownsRow_nil _ _ _ _) ⟨W2.heap.size,0,none⟩ 1 1 [.string nm] rfl rfl bz ?qc1 ?qc2 ?qc3 ?qc4 ?_))
     case qc1=>intro u hu;simp at hu;subst hu;rfl
     case qc2=>unfold maxLen;omega
     case qc3=>omega
     case qc4=>have:=s.out.size;simp;omega
     intro v3 w3 hown3 K3 _ hat3;have HB3:Hid (Bl w w3):=(s.out.alloc s.out.size _).grown K3 (by have:=s.out.size;simp;omega) (fun j c=>by cases c)
     have HO3:=aa hown3;clear hown3 K3 hat3
     go_wp2_with (at_builtin;refine wpList_append_own_none rfl _ _ 120 rfl w.heap.size 9 i0 1 Tryz.underlying120 J _ 1 _ rfl HO3.out rfl ?_)
     have B:=aa (lC Z.out Y.out 0);rw [HNm.out] at B;go_wp2_with fail
     go_roundg (n-(i+1))
     case measure=>omega
     case rel=>exact ⟨i+1,[nm],by omega,rfl,by go_num,HO3.out,B.out,HB3.out⟩
    have hlen:=hRl;obtain ⟨m,hm⟩:=az R.length;have HM:=aa hm;have hmi:(m:Int)≤30:=by omega
    rw [hm] at hcp K0 ⊢;have hcpi:(m:Int)≤(cp:Int):=by omega
    have hcmi:(cp:Int)≤9223372036854775807:=by omega
    have X:=aa K0;clear K K0 hm hlen;go_wp2_with fail;have X2:=aa x2;clear x2;obtain ⟨wo,rfl⟩:∃ wo:World,wo=wr:=⟨_,rfl⟩
    go_loopg [5] m (fun g' s5 ws => ∃ (k:Nat),k≤m∧g'=m-k∧s5=.int .i64 k∧Bl wo ws)
    case atStart=>exact ⟨0,zU,rfl,rfl,zS⟩
    case round =>
     obtain ⟨k,hk,rfl,rfl,u9⟩:=hrel;have W:=aa u9;have x2':=aC u9 E X2.out;have hblr:=zW E u9.size;have hglr:=zW hgl u9.size
     by_cases hkm:k<m
     ·have hki:(k:Int)<(m:Int):=by omega
      have c0:=aC u9 hgl (X.out k hkm);obtain ⟨y,hy⟩:=az (R.getD k jj);have HY:=aa hy;rw [hy] at c0;clear hy u9;cases hls:Op.bytesLess y.toList nm.toList
      ·go_wp2_with fail
       go_quiet (fail)
       obtain ⟨W1,C⟩:=az (wr.drewN nq);have z:Bl wr W1:=by rw [←C];exact ac (zS) _
       have HS1:=aa z;have c1:=aC z hglr c0;have x3:=aC z hblr x2';rw [C];clear C z c0 x2' hls
       by_cases hyx:y=nm
       ·have HMem:Hid ((l.getD i bO).name∈R):=by
         show _∈R
         rw [HNm.out,←hyx,←HY.out,zZ,zX (by rw [HM.out];exact hkm)]
         exact List.getElem_mem _
        subst hyx;go_wp2_with fail
        go_quiet (fail)
        have HBq:Hid (Bl w (W1.drewN nq)):=ac (ae HW.out (ae W.out HS1.out)) _;have HOq:=aa (an HO.out (ac (ae W.out HS1.out) nq));rw [HM.out] at HOq;go_wp2_with fail
        go_roundg (n-(i+1))
        case measure=>omega
        case rel=>exact ⟨i+1,R,by omega,rfl,by go_num,by rw [HM.out];exact HOq.out,Gk Z.out Y.out HMem.out,HBq.out⟩
       have hne:=IQ hyx;clear hyx;go_wp2_with fail
       go_quiet (fail)
       obtain ⟨W2,D⟩:=az (W1.drewN nq);have Q:Bl W1 W2:=by rw [←D];exact ac (zS) _
       have HS2:=aa (ae HS1.out Q);rw [D];clear D Q c1 x3 hne;have hck : ¬ cp=k:=by omega
       have KT:=aa hk;have H0:Hid (g<W2.heap.size):=zW hgl (ae W.out HS2.out).size;have t:=aa (ae W.out HS2.out);have G:∀ j,j<R.length→W2.cell? ⟨g,j,none⟩=some (.string (R.getD j jj)):=fun j c=>aC t.out hgl (X.out j (by rw [←HM.out];exact c))
       have HCW:=aa G;have z2:=aC t.out E X2.out;have r:=aa (ae HW.out t.out);have S:=zW E t.out.size;clear G
       go_wp2_with (at_builtin;refine wpList_append_own_at _ rfl _ _ 120 rfl w.heap.size 9 i0 _ 1 16 Tryz.underlying120 J T U V rfl (by decide) _ 0 [] rfl (World.ownsRow_nil _ _ _ _) ⟨g,0,none⟩ k cp (eK (R.take k)) rfl ?qa0 ?qa1 ?qa2 ?qa3 ?qa4 ?qa5 ?_)
       case qa0=>rw [eK,List.length_map,List.length_take,HM.out,Nat.mul_one];exact Nat.min_eq_left KT.out
       case qa1=>exact vI HCW.out k
       case qa2=>exact tb _
       case qa3=>unfold maxLen;omega
       case qa4=>omega
       case qa5=>exact r.out.size
       intro v1 w1 H a _ N;have Hat1:=aa N;have h:Bl W2 w1:=⟨a.os,a.tape,a.output,a.size,fun q hq=>a.block q hq (by simp [Value.ownBlock])⟩
       have L:=aa h;have A:=aa (ae r.out h);have HO1:=aa H;have z3:=aC h S z2;have hbl3:=zW S h.size;clear H a N h z2
       go_wp2_with (at_builtin;refine wpList_append_own_at _ rfl _ _ 120 rfl w.heap.size 9 i0 _ 1 16 Tryz.underlying120 J T U V rfl (by decide) _ k _ rfl (an HO1.out ?qb0) ⟨w1.heap.size,0,none⟩ 1 1 [.string nm] rfl rfl bz ?qb1 ?qb2 ?qb3 ?qb4 ?_)
       case qb0=>exact (zS).alloc (zT) _
       case qb1=>intro u hu;simp at hu;subst hu;rfl
       case qb2=>unfold maxLen;omega
       case qb3=>omega
       case qb4=>have:=A.out.size;simp;omega
       intro v2 w2 I f _ O;have M:∀ j,v1.ownBlock=some j→W2.heap.size≤j:=fun j c=>by
        rcases Hat1.out with e | e
        ·rw [e] at c;cases c
        rw [e] at c;cases c;exact zT
       have s:Hid (Bl w w2):=(A.out.alloc A.out.size _).grown f (by have:=A.out.size;simp;omega) (fun j c=>by have:=M j c;have:=r.out.size;omega)
       have HG2:Hid (Bl W2 w2):=(L.out.alloc L.out.size _).grown f (by have:=L.out.size;simp;omega) (fun j c=>M j c)
       have HO2:=aa I;have hv2:∀ j,v2.ownBlock=some j→W2.heap.size≤j:=fun j c=>by
        rcases O with e | e
        ·exact M j (by rw [←e];exact c)
        rw [e] at c;cases c;have:=L.out.size
        first | omega | (simp;omega)
       have Hv2:=aa hv2;have F:∀ j,j<R.length→w2.cell? ⟨g,j,none⟩=some (.string (R.getD j jj)):=fun j c=>aC HG2.out H0.out (HCW.out j c)
       have HC3:=aa F;clear I f O M hv2 F z3
       go_wp2_with (at_builtin;refine wpList_append_own_at _ rfl _ _ 120 rfl w.heap.size 9 i0 _ 1 16 Tryz.underlying120 J T U V rfl (by decide) _ (k+1) _ rfl HO2.out ⟨g,k,none⟩ (m-k) (cp-k) (eK (R.drop k)) rfl ?qd0 ?qd1 ?qd2 ?qd3 ?qd4 ?qd5 ?_)
       case qd0=>rw [eK,List.length_map,List.length_drop,HM.out,Nat.mul_one]
       case qd1=>exact Gp HC3.out k
       case qd2=>exact tb _
       case qd3=>unfold maxLen;omega
       case qd4=>omega
       case qd5=>exact s.out.size
       intro v4 w4 p d _ P;have HB4:Hid (Bl w w4):=s.out.grown d s.out.size (fun j c=>by have:=Hv2.out j c;have:=r.out.size;omega)
       have HO4:Hid (w4.ownsRow w.heap.size 9 1 v4 (R.take k ++ [nm] ++ R.drop k).length (eK (R.take k ++ [nm] ++ R.drop k))):=by
        have e1:(R.take k ++ [nm] ++ R.drop k).length=k+1+(m-k):=by
         rw [List.length_append,List.length_append,List.length_take,List.length_drop,HM.out,Nat.min_eq_left KT.out];rfl
        have e2:eK (R.take k ++ [nm] ++ R.drop k)=eK (R.take k) ++ .string nm :: eK (R.drop k):=by simp [eK]
        show World.ownsRow ..
        rw [e1,e2];exact p
       have B:=aa (lC Z.out Y.out k);rw [HNm.out] at B;clear p d P;go_wp2_with fail
       go_roundg (n-(i+1))
       case measure=>omega
       case rel=>exact ⟨i+1,_,by omega,rfl,by go_num,HO4.out,B.out,HB4.out⟩
      go_wp2_with fail
      go_quiet (fail)
      have HBq:Hid (Bl wo (wr.drewN nq)):=ac W.out _;go_wp2_with fail
      go_roundg (m-(k+1))
      case measure=>omega
      case rel=>exact ⟨k+1,by omega,rfl,by go_num,HBq.out⟩
     have hke:k=m:=by omega
     subst hke;clear u9;go_wp2_with fail
     go_quiet (fail)
     obtain ⟨W1,C⟩:=az (wr.drewN nq);have z:Bl wr W1:=by rw [←C];exact ac (zS) _
     have HS1:=aa z;have x3:=aC z hblr x2';rw [C];clear C z x2';go_wp2_with fail
     go_quiet (fail)
     obtain ⟨W2,D⟩:=az (W1.drewN nq);have Q:Bl W1 W2:=by rw [←D];exact ac (zS) _
     have HS2:=aa (ae HS1.out Q);rw [D];clear D Q x3;have KT:Hid (k≤k):=zT;have H0:Hid (g<W2.heap.size):=zW hgl (ae W.out HS2.out).size;have t:=aa (ae W.out HS2.out);have G:∀ j,j<R.length→W2.cell? ⟨g,j,none⟩=some (.string (R.getD j jj)):=fun j c=>aC t.out hgl (X.out j (by rw [←HM.out];exact c))
     have HCW:=aa G;have z2:=aC t.out E X2.out;have r:=aa (ae HW.out t.out);have S:=zW E t.out.size;clear G
     go_wp2_with (at_builtin;refine wpList_append_own_at _ rfl _ _ 120 rfl w.heap.size 9 i0 _ 1 16 Tryz.underlying120 J T U V rfl (by decide) _ 0 [] rfl (World.ownsRow_nil _ _ _ _) ⟨g,0,none⟩ k cp (eK (R.take k)) rfl ?qa0 ?qa1 ?qa2 ?qa3 ?qa4 ?qa5 ?_)
     case qa0=>rw [eK,List.length_map,List.length_take,HM.out,Nat.mul_one];exact Nat.min_eq_left KT.out
     case qa1=>exact vI HCW.out k
     case qa2=>exact tb _
     case qa3=>unfold maxLen;omega
     case qa4=>omega
     case qa5=>exact r.out.size
     intro v1 w1 H a _ N;have Hat1:=aa N;have h:Bl W2 w1:=⟨a.os,a.tape,a.output,a.size,fun q hq=>a.block q hq (by simp [Value.ownBlock])⟩
     have L:=aa h;have A:=aa (ae r.out h);have HO1:=aa H;have z3:=aC h S z2;have hbl3:=zW S h.size;clear H a N h z2
     go_wp2_with (at_builtin;refine wpList_append_own_at _ rfl _ _ 120 rfl w.heap.size 9 i0 _ 1 16 Tryz.underlying120 J T U V rfl (by decide) _ k _ rfl (an HO1.out ?qb0) ⟨w1.heap.size,0,none⟩ 1 1 [.string nm] rfl rfl bz ?qb1 ?qb2 ?qb3 ?qb4 ?_)
     case qb0=>exact (zS).alloc (zT) _
     case qb1=>intro u hu;simp at hu;subst hu;rfl
     case qb2=>unfold maxLen;omega
     case qb3=>omega
     case qb4=>have:=A.out.size;simp;omega
     intro v2 w2 I f _ O;have M:∀ j,v1.ownBlock=some j→W2.heap.size≤j:=fun j c=>by
      rcases Hat1.out with e | e
      ·rw [e] at c;cases c
      rw [e] at c;cases c;exact zT
     have s:Hid (Bl w w2):=(A.out.alloc A.out.size _).grown f (by have:=A.out.size;simp;omega) (fun j c=>by have:=M j c;have:=r.out.size;omega)
     have HG2:Hid (Bl W2 w2):=(L.out.alloc L.out.size _).grown f (by have:=L.out.size;simp;omega) (fun j c=>M j c)
     have HO2:=aa I;have hv2:∀ j,v2.ownBlock=some j→W2.heap.size≤j:=fun j c=>by
      rcases O with e | e
      ·exact M j (by rw [←e];exact c)
      rw [e] at c;cases c;have:=L.out.size
      first | omega | (simp;omega)
     have Hv2:=aa hv2;have F:∀ j,j<R.length→w2.cell? ⟨g,j,none⟩=some (.string (R.getD j jj)):=fun j c=>aC HG2.out H0.out (HCW.out j c)
     have HC3:=aa F;clear I f O M hv2 F z3
     by_cases hcc:cp=k
     ·obtain ⟨A2,c2,hv2e⟩:=fO HO2.out
      subst hv2e
      go_wp2_with (at_builtin;(refine wpList_append_own_at _ rfl _ _ 120 rfl w.heap.size 9 i0 _ 1 16 Tryz.underlying120 J T U V rfl (by decide) _ (k+1) _ rfl HO2.out ⟨g,0,none⟩ 0 0 [] rfl rfl ?qd1 ?qd2 ?qd3 ?qd4 ?qd5 ?_))
      case qd1=>intro j u c;simp at c
      case qd2=>intro u hu;simp at hu
      case qd3=>unfold maxLen;omega
      case qd4=>omega
      case qd5=>exact s.out.size
      intro v4 w4 p d _ P;have HB4:Hid (Bl w w4):=s.out.grown d s.out.size (fun j c=>by have:=Hv2.out j c;have:=r.out.size;omega)
      have HO4:Hid (w4.ownsRow w.heap.size 9 1 v4 (R.take k ++ [nm] ++ R.drop k).length (eK (R.take k ++ [nm] ++ R.drop k))):=by
       have e0:R.drop k=[]:=List.drop_eq_nil_of_le (by rw [HM.out];exact zT)
       have e1:(R.take k ++ [nm] ++ R.drop k).length=k+1:=by
        rw [e0,List.append_nil,List.length_append,List.length_take,HM.out,Nat.min_self];rfl
       have e2:eK (R.take k ++ [nm] ++ R.drop k)=eK (R.take k) ++ [.string nm]:=by rw [e0];simp [eK]
       show World.ownsRow ..
       rw [e1,e2];exact p
      have B:=aa (lC Z.out Y.out k);rw [HNm.out] at B;clear p d P;go_wp2_with fail
      go_roundg (n-(i+1))
      case measure=>omega
      case rel=>exact ⟨i+1,_,by omega,rfl,by go_num,HO4.out,B.out,HB4.out⟩
     go_wp2_with (at_builtin;(refine wpList_append_own_at _ rfl _ _ 120 rfl w.heap.size 9 i0 _ 1 16 Tryz.underlying120 J T U V rfl (by decide) _ (k+1) _ rfl HO2.out ⟨g,k,none⟩ 0 (cp-k) [] rfl rfl ?qd1 ?qd2 ?qd3 ?qd4 ?qd5 ?_))
     case qd1=>intro j u c;simp at c
     case qd2=>intro u hu;simp at hu
     case qd3=>unfold maxLen;omega
     case qd4=>omega
     case qd5=>exact s.out.size
     intro v4 w4 p d _ P;have HB4:Hid (Bl w w4):=s.out.grown d s.out.size (fun j c=>by have:=Hv2.out j c;have:=r.out.size;omega)
     have HO4:Hid (w4.ownsRow w.heap.size 9 1 v4 (R.take k ++ [nm] ++ R.drop k).length (eK (R.take k ++ [nm] ++ R.drop k))):=by
      have e0:R.drop k=[]:=List.drop_eq_nil_of_le (by rw [HM.out];exact zT)
      have e1:(R.take k ++ [nm] ++ R.drop k).length=k+1:=by
       rw [e0,List.append_nil,List.length_append,List.length_take,HM.out,Nat.min_self];rfl
      have e2:eK (R.take k ++ [nm] ++ R.drop k)=eK (R.take k) ++ [.string nm]:=by rw [e0];simp [eK]
      show World.ownsRow ..
      rw [e1,e2];exact p
     have B:=aa (lC Z.out Y.out k);rw [HNm.out] at B;clear p d P;go_wp2_with fail
     go_roundg (n-(i+1))
     case measure=>omega
     case rel=>exact ⟨i+1,_,by omega,rfl,by go_num,HO4.out,B.out,HB4.out⟩
   have hne:(x.op != 2)=true:=by simpa using hop
   have Y:Hid ((l.getD i bO).op≠2):=by show _≠_;rw [HX.out];exact hop
   clear hop K;go_wp2_with fail
   go_roundg (n-(i+1))
   case measure=>omega
   case rel=>exact ⟨i+1,R,by omega,rfl,by go_num,HO.out,Dp Z.out Y.out,HW.out⟩
  have hie:i=n:=by omega
  subst hie;clear K;go_wp2_with fail;go_ret;exact ⟨⟨_,R,rfl,HO.out,Z.out⟩,HW.out⟩
end Go.Proofs.YtohgnbgamfepoaaGreatDoor
