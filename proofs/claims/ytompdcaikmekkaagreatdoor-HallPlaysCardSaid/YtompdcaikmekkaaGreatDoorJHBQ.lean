/- An edit of entries, as -/
import Derived.Test.YtompdcaikmekkaaGreatDoorJHBK
namespace Go.Proofs.YtompdcaikmekkaaGreatDoor
open ChangeShapes WideShapes ChangeAt RowKit
set_option maxRecDepth 99999
set_option maxHeartbeats 0
def fG (w:World) (A:Option Addr) (c:Nat) (zs:List EnL):Prop:=b6 w A c zs∧(A=none→c=0)
theorem fG.later {w w':World} {A:Option Addr} {c:Nat} {zs:List EnL} (h:fG w A c zs) (a:Bl w w'):fG w' A c zs:=⟨h.1.later a,h.2⟩
theorem kX {w:World} {base:Nat} {v:Value} {zs:List EnL} (h:w.ownsRow base 83 2 v zs.length (ah zs)) (l:∀ x∈zs,a7 w x.A x.c x.e.pl):∃ A c,v=.slice A zs.length c∧fG w A c zs:=by
 rcases h.2 with ⟨rfl,a⟩ | ⟨g,cap,b,rfl,m,f,d,k,_,_⟩
 ·refine ⟨none,0,by rw [a],⟨by omega,by decide,Or.inl (List.eq_nil_of_length_eq_zero a)⟩,fun _=>rfl⟩
 refine ⟨_,cap,rfl,⟨d,by unfold maxLen at k;omega,Or.inr ⟨g,0,rfl,(zY f).1,fun j u i=>?_,l⟩⟩,fun h=>by cases h⟩
 have y:=h.cells (g:=g) rfl j u i;rw [aK] at y;exact y
theorem gD {w w' W:World} {base:Nat} {v:Value} {n:Nat} {zs:List Value} (b:Below base W w) (d:base≤w.heap.size) (a:w.ownsRow base 83 2 v n zs) (c:w.grownBy w' v.ownBlock):Below base W w' :=
 b.grown c d fun k e=>(a.lt k e).1
def zm (w:World) (E:Int) (l:List En) (e:Ending) (w':World):Prop:=(∃ B c zs,e=.returned (.tuple #[.slice B zs.length c,.int .i64 E])∧fG w' B c zs∧lE zs=pw E l)∧Bl w w'
structure EditCalls (W:World) (A0:Option Addr) (cap n:Nat) (AE:Option Addr) (nx ce:Nat) (Ax:Option Addr) (m cx:Nat) (SE:Int) (cnt:Nat) (has lf:Bool):Prop where
 place:∀ w',Bl W w'→Calls Tryz.prog 16 #[.agg #[.slice A0 n cap],.slice Ax m cx] w' fun e w''=>e=.returned (.int .i64 SE)∧Bl w' w''
 find:SE=0→∀ w',Bl W w'→Calls Tryz.prog 46 #[.slice AE nx ce,.slice Ax m cx] w' fun e w''=>e=.returned (.tuple #[.int .i64 (cnt:Nat),.bool has])∧Bl w' w''
 leaf:SE=0→∀ w',Bl W w'→Calls Tryz.prog 44 #[.agg #[.slice A0 n cap],.slice Ax m cx] w' fun e w''=>e=.returned (.bool lf)∧Bl w' w''
theorem ar (w:World) (A0:Option Addr) (n cap:Nat) (A:Option Addr) (m c:Nat) (N:Int) (a:Bool):(aN w A0 n cap A m c N a).heap.size=w.heap.size+2:=by unfold aN;rw [xS,aw]
theorem gd (w:World) (A0:Option Addr) (n cap:Nat) (A:Option Addr) (m c:Nat) (N:Int) (a:Bool):(aN w A0 n cap A m c N a).cell? ⟨w.heap.size,0,none⟩=some (.slice A0 n cap) :=
 ((js (ay w A0 n cap 24) A m c N a).cell (p:=⟨w.heap.size,0,none⟩) (by show w.heap.size<_;rw [aw];omega)).trans (aI ..)
theorem aQ (w:World) (A0:Option Addr) (n cap:Nat) (A:Option Addr) (m c:Nat) (N:Int) (a:Bool):(aN w A0 n cap A m c N a).cell? ⟨w.heap.size+1,0,none⟩=some (.slice A m c)∧(aN w A0 n cap A m c N a).cell? ⟨w.heap.size+1,1,none⟩=some (.int .i64 N)∧(aN w A0 n cap A m c N a).cell? ⟨w.heap.size+1,2,none⟩=some (.bool a):=by
 have h:=heap_alloc_new (ay w A0 n cap 24) (.cells #[.slice A m c,.int .i64 N,.bool a] 41);rw [aw] at h;exact ⟨by rw [aN,ownEd,Lib.cell_of_heap h];rfl,by rw [aN,ownEd,Lib.cell_of_heap h];rfl,by rw [aN,ownEd,Lib.cell_of_heap h];rfl⟩
theorem CS (A0:Option Addr) (cap n:Nat) (AE:Option Addr) (nx O:Nat) (Ax:Option Addr) (m d:Nat) (N:Int) (H:Bool) (SE:Int) (I:Nat) (F lf:Bool) (E:Int) (w:World) (M:EditCalls (aN w A0 n cap Ax m d N H) A0 cap n AE nx O Ax m d SE I F lf)
  (r:E=if SE≠0 then SE else if H=true then (if F=true then 0 else 5) else if lf=false then 6 else if cT N=false then 1 else 0) (C:E≠0) :
  Rt 23 #[.agg #[.slice A0 n cap],.slice AE nx O,.agg #[.slice Ax m d,.int .i64 N,.bool H]] w (.tuple #[.slice none 0 0,.int .i64 E]):=by
 have z:=aa M;have t:Hid (Bl w (aN w A0 n cap Ax m d N H)):=dA ..;have A:=M.place _ (zS);clear M
 by_cases D:SE=0
 ·subst D
  rw [if_neg (by simp)] at r
  cases H
  ·rw [if_neg (by simp)] at r
   cases lf
   ·have y:=aa r
    clear r C
    go_enter Tryz.func23,Tryz.ntmps23
    go_wp2_with fail;refine A.mono ?_;rintro e w1 ⟨rfl,a⟩;have q:=aa a;have c0:=aD a (by show w.heap.size<_;rw [ar];omega) (gd w A0 n cap Ax m d N false)
    have c1:=(a.cell (p:=⟨w.heap.size+1,0,none⟩) (by show w.heap.size+1<_;rw [ar];omega)).trans (aQ w A0 n cap Ax m d N false).1
    have i:Hid (w1.cell? ⟨w.heap.size+1,1,none⟩=some (.int .i64 N)):=(a.cell (p:=⟨w.heap.size+1,1,none⟩) (by show w.heap.size+1<_;rw [ar];omega)).trans (aQ w A0 n cap Ax m d N false).2.1
    have j:Hid (w1.cell? ⟨w.heap.size+1,2,none⟩=some (.bool false)):=(a.cell (p:=⟨w.heap.size+1,2,none⟩) (by show w.heap.size+1<_;rw [ar];omega)).trans (aQ w A0 n cap Ax m d N false).2.2
    have b:w.heap.size+1<w1.heap.size:=by have:=a.size;rw [ar] at this;omega
    have g:=aa c0;have h:=aa c1;have v:=z.out.find rfl w1 a;clear a A;go_wp2_with fail;refine v.mono ?_;rintro e w2 ⟨rfl,a⟩;have f:=aa (ae q.out a);have B:w2.cell? ⟨w.heap.size,0,none⟩=some (.slice A0 n cap):=aD a (by show w.heap.size<_;omega) g.out
    have u:w2.cell? ⟨w.heap.size+1,0,none⟩=some (.slice Ax m d):=aD a b h.out;have k:=aa u;have l:Hid (w2.cell? ⟨w.heap.size+1,1,none⟩=some (.int .i64 N)):=aD a b i.out;have o:Hid (w2.cell? ⟨w.heap.size+1,2,none⟩=some (.bool false)):=aD a b j.out;have c:w.heap.size+1<w2.heap.size:=zW b a.size;have x:=z.out.leaf rfl w2 f.out;clear a v c0 c1 g h i j;go_wp2_with fail;refine x.mono ?_;rintro e w3 ⟨rfl,a⟩;have s:=aa (ae f.out a);have J:w3.cell? ⟨w.heap.size+1,0,none⟩=some (.slice Ax m d):=aD a c k.out;have K:w3.cell? ⟨w.heap.size+1,1,none⟩=some (.int .i64 N):=aD a c l.out;have L:w3.cell? ⟨w.heap.size+1,2,none⟩=some (.bool false):=aD a c o.out;have G:w.heap.size+1<w3.heap.size:=zW c a.size;clear a x B u k l o;go_wp2_with fail
    go_ret2
    rw [y.out];exact ⟨rfl,ae t.out s.out⟩
   rw [if_neg (by simp)] at r
   by_cases R:N < -1000000
   ·have y:Hid (E=1):=by show _=_;rw [r,if_pos (by simp [cT];omega)]
    clear r C
    go_enter Tryz.func23,Tryz.ntmps23
    go_wp2_with fail;refine A.mono ?_;rintro e w1 ⟨rfl,a⟩;have q:=aa a;have c0:=aD a (by show w.heap.size<_;rw [ar];omega) (gd w A0 n cap Ax m d N false)
    have c1:=(a.cell (p:=⟨w.heap.size+1,0,none⟩) (by show w.heap.size+1<_;rw [ar];omega)).trans (aQ w A0 n cap Ax m d N false).1
    have i:Hid (w1.cell? ⟨w.heap.size+1,1,none⟩=some (.int .i64 N)):=(a.cell (p:=⟨w.heap.size+1,1,none⟩) (by show w.heap.size+1<_;rw [ar];omega)).trans (aQ w A0 n cap Ax m d N false).2.1
    have j:Hid (w1.cell? ⟨w.heap.size+1,2,none⟩=some (.bool false)):=(a.cell (p:=⟨w.heap.size+1,2,none⟩) (by show w.heap.size+1<_;rw [ar];omega)).trans (aQ w A0 n cap Ax m d N false).2.2
    have b:w.heap.size+1<w1.heap.size:=by have:=a.size;rw [ar] at this;omega
    have g:=aa c0;have h:=aa c1;have v:=z.out.find rfl w1 a;clear a A;go_wp2_with fail;refine v.mono ?_;rintro e w2 ⟨rfl,a⟩;have f:=aa (ae q.out a);have B:w2.cell? ⟨w.heap.size,0,none⟩=some (.slice A0 n cap):=aD a (by show w.heap.size<_;omega) g.out
    have u:w2.cell? ⟨w.heap.size+1,0,none⟩=some (.slice Ax m d):=aD a b h.out;have k:=aa u;have l:Hid (w2.cell? ⟨w.heap.size+1,1,none⟩=some (.int .i64 N)):=aD a b i.out;have o:Hid (w2.cell? ⟨w.heap.size+1,2,none⟩=some (.bool false)):=aD a b j.out;have c:w.heap.size+1<w2.heap.size:=zW b a.size;have x:=z.out.leaf rfl w2 f.out;clear a v c0 c1 g h i j;go_wp2_with fail;refine x.mono ?_;rintro e w3 ⟨rfl,a⟩;have s:=aa (ae f.out a);have J:w3.cell? ⟨w.heap.size+1,0,none⟩=some (.slice Ax m d):=aD a c k.out;have K:w3.cell? ⟨w.heap.size+1,1,none⟩=some (.int .i64 N):=aD a c l.out;have L:w3.cell? ⟨w.heap.size+1,2,none⟩=some (.bool false):=aD a c o.out;have G:w.heap.size+1<w3.heap.size:=zW c a.size;clear a x B u k l o;go_wp2_with fail
    go_ret2
    rw [y.out];exact ⟨rfl,ae t.out s.out⟩
   by_cases Q:1000000<N
   ·have y:Hid (E=1):=by show _=_;rw [r,if_pos (by simp [cT];omega)]
    clear r C
    go_enter Tryz.func23,Tryz.ntmps23
    go_wp2_with fail;refine A.mono ?_;rintro e w1 ⟨rfl,a⟩;have q:=aa a;have c0:=aD a (by show w.heap.size<_;rw [ar];omega) (gd w A0 n cap Ax m d N false)
    have c1:=(a.cell (p:=⟨w.heap.size+1,0,none⟩) (by show w.heap.size+1<_;rw [ar];omega)).trans (aQ w A0 n cap Ax m d N false).1
    have i:Hid (w1.cell? ⟨w.heap.size+1,1,none⟩=some (.int .i64 N)):=(a.cell (p:=⟨w.heap.size+1,1,none⟩) (by show w.heap.size+1<_;rw [ar];omega)).trans (aQ w A0 n cap Ax m d N false).2.1
    have j:Hid (w1.cell? ⟨w.heap.size+1,2,none⟩=some (.bool false)):=(a.cell (p:=⟨w.heap.size+1,2,none⟩) (by show w.heap.size+1<_;rw [ar];omega)).trans (aQ w A0 n cap Ax m d N false).2.2
    have b:w.heap.size+1<w1.heap.size:=by have:=a.size;rw [ar] at this;omega
    have g:=aa c0;have h:=aa c1;have v:=z.out.find rfl w1 a;clear a A;go_wp2_with fail;refine v.mono ?_;rintro e w2 ⟨rfl,a⟩;have f:=aa (ae q.out a);have B:w2.cell? ⟨w.heap.size,0,none⟩=some (.slice A0 n cap):=aD a (by show w.heap.size<_;omega) g.out
    have u:w2.cell? ⟨w.heap.size+1,0,none⟩=some (.slice Ax m d):=aD a b h.out;have k:=aa u;have l:Hid (w2.cell? ⟨w.heap.size+1,1,none⟩=some (.int .i64 N)):=aD a b i.out;have o:Hid (w2.cell? ⟨w.heap.size+1,2,none⟩=some (.bool false)):=aD a b j.out;have c:w.heap.size+1<w2.heap.size:=zW b a.size;have x:=z.out.leaf rfl w2 f.out;clear a v c0 c1 g h i j;go_wp2_with fail;refine x.mono ?_;rintro e w3 ⟨rfl,a⟩;have s:=aa (ae f.out a);have J:w3.cell? ⟨w.heap.size+1,0,none⟩=some (.slice Ax m d):=aD a c k.out;have K:w3.cell? ⟨w.heap.size+1,1,none⟩=some (.int .i64 N):=aD a c l.out;have L:w3.cell? ⟨w.heap.size+1,2,none⟩=some (.bool false):=aD a c o.out;have G:w.heap.size+1<w3.heap.size:=zW c a.size;clear a x B u k l o;go_wp2_with fail
    go_ret2
    rw [y.out];exact ⟨rfl,ae t.out s.out⟩
   exact absurd (by rw [r,if_neg (by simp [cT];omega)]) C
  rw [if_pos rfl] at r;cases F
  ·have y:=aa r
   clear r C
   go_enter Tryz.func23,Tryz.ntmps23
   go_wp2_with fail;refine A.mono ?_;rintro e w1 ⟨rfl,a⟩;have q:=aa a;have c0:=aD a (by show w.heap.size<_;rw [ar];omega) (gd w A0 n cap Ax m d N true)
   have c1:=(a.cell (p:=⟨w.heap.size+1,0,none⟩) (by show w.heap.size+1<_;rw [ar];omega)).trans (aQ w A0 n cap Ax m d N true).1
   have i:Hid (w1.cell? ⟨w.heap.size+1,1,none⟩=some (.int .i64 N)):=(a.cell (p:=⟨w.heap.size+1,1,none⟩) (by show w.heap.size+1<_;rw [ar];omega)).trans (aQ w A0 n cap Ax m d N true).2.1
   have j:Hid (w1.cell? ⟨w.heap.size+1,2,none⟩=some (.bool true)):=(a.cell (p:=⟨w.heap.size+1,2,none⟩) (by show w.heap.size+1<_;rw [ar];omega)).trans (aQ w A0 n cap Ax m d N true).2.2
   have b:w.heap.size+1<w1.heap.size:=by have:=a.size;rw [ar] at this;omega
   have g:=aa c0;have h:=aa c1;have v:=z.out.find rfl w1 a;clear a A;go_wp2_with fail;refine v.mono ?_;rintro e w2 ⟨rfl,a⟩;have f:=aa (ae q.out a);have B:w2.cell? ⟨w.heap.size,0,none⟩=some (.slice A0 n cap):=aD a (by show w.heap.size<_;omega) g.out
   have u:w2.cell? ⟨w.heap.size+1,0,none⟩=some (.slice Ax m d):=aD a b h.out;have k:=aa u;have l:Hid (w2.cell? ⟨w.heap.size+1,1,none⟩=some (.int .i64 N)):=aD a b i.out;have o:Hid (w2.cell? ⟨w.heap.size+1,2,none⟩=some (.bool true)):=aD a b j.out;have c:w.heap.size+1<w2.heap.size:=zW b a.size;have x:=z.out.leaf rfl w2 f.out;clear a v c0 c1 g h i j;go_wp2_with fail;refine x.mono ?_;rintro e w3 ⟨rfl,a⟩;have s:=aa (ae f.out a);have J:w3.cell? ⟨w.heap.size+1,0,none⟩=some (.slice Ax m d):=aD a c k.out;have K:w3.cell? ⟨w.heap.size+1,1,none⟩=some (.int .i64 N):=aD a c l.out;have L:w3.cell? ⟨w.heap.size+1,2,none⟩=some (.bool true):=aD a c o.out;have G:w.heap.size+1<w3.heap.size:=zW c a.size;clear a x B u k l o;go_wp2_with fail
   go_ret2
   rw [y.out];exact ⟨rfl,ae t.out s.out⟩
  exact absurd r C
 have y:Hid (E=SE):=by show _=_;rw [r,if_pos (by simpa using D)]
 have P:(SE == 0)=false:=by simpa using D
 clear r C z
 go_enter Tryz.func23,Tryz.ntmps23
 go_wp2_with fail;refine A.mono ?_;rintro e w1 ⟨rfl,a⟩;have q:=aa (ae t.out a);clear a;go_wp2_with fail
 go_ret2
 rw [y.out];exact ⟨rfl,q.out⟩
theorem vK (A0:Option Addr) (cap n:Nat) (D:Nat→Dm) (A:Nat→Option Addr) (C:Nat→Nat) (ve:Value) (Ap:Option Addr) (cp:Nat) (L:List Int) (Ac:Option Addr) (cc:Nat) (CL:List (Int×Int)) (b m:Nat) (w:World) (hI:InO D n L) (hM:aY w A0 cap n D A C) (hP:a7 w Ap cp L) (hC:dw w Ac cc CL) (hCL:CL.length=prodN D n) (H:oO CL) (hb:byTo D L n=(b:Int)) (hm:(L.getD b 0).toNat=m) (hf:((D b).mem m).formula.size=0) :
  Rt 29 #[.agg #[.slice A0 n cap],ve,.slice Ap L.length cp,.slice Ac CL.length cc] w (.agg #[.int .i64 (eu (D b) (fun z=>CL.getD (numI D (L.set b z) n).toNat noC) m).1,.int .i64 (eu (D b) (fun z=>CL.getD (numI D (L.set b z) n).toNat noC) m).2]):=by
 obtain ⟨hn1,hn4,hp3,hd⟩:=au hI.right;have t:b<n:=by
  rcases by_in D L n with h | ⟨b',h1,Q⟩ <;> omega
 obtain ⟨hd1,V⟩:=hd b t;have hdk:=(f9 hI.right).2 b t;have hp0:=hI.lo b t;have hp1:=hI.hi b t;have hmn:m<(D b).n:=by omega
 have hLb:L.getD b 0=(m:Int):=by omega
 have hl:=hI.len;obtain ⟨W,hW⟩:=aA ((w.alloc (.cells #[.slice A0 n cap] 24)).alloc (.cells #[.int .i64 0,.int .i64 0] 52));have KM:Bl w W:=by rw [←hW];go_grown
 have hk1:W.heap[w.heap.size+1]?=some (.cells #[.int .i64 0,.int .i64 0] 52 (0,0)):=by rw [←hW];exact kj _ _ _
 have KS:W.heap[w.heap.size]?=some (.cells #[.slice A0 n cap] 24 (0,0)):=by rw [←hW];exact qa _ _ _
 have d0:W.cell? ⟨w.heap.size,0,none⟩=some (.slice A0 n cap):=by simp [World.cell?,KS]
 have KV:w.heap.size<W.heap.size:=(zY KS).1;have F:w.heap.size+1<W.heap.size:=(zY hk1).1;have KQ:=nK A0 cap n D A C Ap cp L W hI (hM.later KM) (hP.later KM);rw [hb] at KQ;have HB0:=aa KM;have HK:Hid (W.heap[w.heap.size]?=some (.cells #[.slice A0 n cap] 24 (0,0))∧W.heap[w.heap.size+1]?=some (.cells #[.int .i64 0,.int .i64 0] 52 (0,0))):=⟨KS,hk1⟩;have HM:=aa hM;have HP:=aa hP;have HC:=aa hC;have HI:=aa hI;have HSg:Hid (Sg (D b).mem (D b).n):=Sg.of hdk;have HTr:Hid (Tr (D b).mem (D b).n):=Tr.of hdk;have HCL:=aa hCL;have HGd:=aa H;obtain ⟨f,hfe⟩:∃ f:Int→Int×Int,f=fun z=>CL.getD (numI D (L.set b z) n).toNat noC:=⟨_,rfl⟩
 have HFe:Hid (∀ z,f z=CL.getD (numI D (L.set b z) n).toNat noC):=fun z=>by rw [hfe]
 rw [←hfe];have J:Hid (eu (D b) f m=(bz (D b).mem (D b).n m).foldl (bd (D b).mem f) (0,0)):=by
  show _=_
  unfold eu;rw [if_pos hf]
 have hf':((D b).mem m).formula.toList.isEmpty=true:=by rw [aV];simpa using hf
 rw [hl] at KQ ⊢;obtain ⟨N,hN⟩:=aA CL.length;have HN:=aa hN;rw [hN];have KN:N≤3000:=by omega
 have hbI:(b:Int)<(n:Int):=by omega
 have hb0:decide ((b:Int)<0)=false:=decide_eq_false (by omega)
 have hnI:(n:Int)≤4:=by omega
 have hmI:(m:Int)<((D b).n:Int):=by omega
 have hdI:((D b).n:Int)≤12:=by omega
 have hNI:(N:Int)≤3000:=by omega
 clear hI hM hP hC hCL H hb hm hf hfe KM KS hk1 hdk hd hN hp0 hp1
 go_enter Tryz.func29,Tryz.ntmps29
 go_wp2_with fail;refine KQ.mono ?_;rintro e w1 ⟨rfl,q⟩;have HB1:=aa q;have hB1:=ae HB0.out q;obtain ⟨hcap,x | ⟨bo,oo,rfl,hMs⟩⟩:=HM.out.later hB1
 ·omega
 have hcapI:(n:Int)≤(cap:Int):=by omega
 obtain ⟨q0,q1,q2,q3⟩:=hMs.2 b t;obtain ⟨-,x | ⟨bm,om,hAm,hMm⟩⟩:=q3
 ·omega
 rw [hAm] at q2;obtain ⟨hcp,x | ⟨bp,op,rfl,hbp,U⟩⟩:=HP.out
 ·rw [x] at hl;simp at hl;omega
 have hcpI:(n:Int)≤(cp:Int):=by omega
 have HPc:Hid (∀ w',Bl w w'→w'.cell? ⟨bp,op+b,none⟩=some (.int .i64 m)∧bp<w'.heap.size):=fun w' hB=>⟨by rw [←hLb];exact aD hB hbp (U b (by omega)),zW hbp hB.size⟩
 have cw1:=aD q KV d0;have hsw1:w.heap.size<w1.heap.size:=zW KV q.size;have hbo:bo<w1.heap.size:=hMs.1;have HMm:Hid (∀ w',Bl w w'→b7 w' bm om (D b).n (D b).mem):=fun w' hB=>by
  obtain ⟨-,x | ⟨b1,o1,h1,Q⟩⟩:=HM.out.later hB
  ·omega
  cases h1;obtain ⟨-,x | ⟨b2,o2,h3,h4⟩⟩:=(Q.2 b t).2.2.2
  ·omega
  rw [hAm] at h3;cases h3;exact h4
 obtain ⟨y1,u⟩:∃ y,w1.alloc (.cells #[.string (D b).name,.int .i64 (D b).solve,.slice (some ⟨bm,om,none⟩) (D b).n (C b)] 70)=y:=⟨_,rfl⟩;have B:Bl w1 y1:=by rw [←u];go_grown
 have K:Hid (rW w (some ⟨bo,oo,none⟩) cap n w1.heap.size (D b) (some ⟨bm,om,none⟩) (C b) y1):=by
  have x:=(B.block _ hsw1).trans ((q.block _ KV).trans HK.out.1);have Q:y1.heap[w1.heap.size]?=some (.cells #[.string (D b).name,.int .i64 (D b).solve,.slice (some ⟨bm,om,none⟩) (D b).n (C b)] 70 (0,0)):=by rw [←u];exact heap_alloc_new ..
  exact ⟨ae hB1 B,⟨(zY x).1,by simp [World.cell?,x]⟩,(B.block _ (zW F q.size)).trans ((q.block _ F).trans HK.out.2),(zY Q).1,by simp [World.cell?,Q],by simp [World.cell?,Q],by simp [World.cell?,Q]⟩
 obtain ⟨e1,e2,e3,e4⟩:=K.out.2.2.2;obtain ⟨pc,hbpy⟩:=HPc.out y1 K.out.1;have hMy:=HMm.out y1 K.out.1;obtain ⟨-,-,-,m3⟩:=hMy.2 m hmn;have hbmy:bm<y1.heap.size:=hMy.1;have hsb1:w.heap.size+1<w1.heap.size:=zW F q.size;clear q hB1 hMs hMm hAm U KQ d0 B hMy;go_wp2_with fail
 go_quiet (fail)
 generalize hwj:y1.drewN nq=wj;have hBj:Bl y1 wj:=by rw [←hwj];exact ac (zS) _
 obtain ⟨y2,Y⟩:∃ y,wj.alloc (.cells #[.int .i64 0,.int .i64 0] 52)=y:=⟨_,rfl⟩;have hBy2:Bl wj y2:=by rw [←Y];go_grown
 have HBx2:Hid (y2.heap[wj.heap.size]?=some (.cells #[.int .i64 0,.int .i64 0] 52 (0,0))):=by show _=_;rw [←Y];exact heap_alloc_new ..
 have KJ:=aa (K.out.later (ae hBj hBy2));have hqk:wj.heap.size<y2.heap.size:=(zY HBx2.out).1;have hqd:w1.heap.size<wj.heap.size:=zW K.out.2.2.2.1 hBj.size;obtain ⟨e1',e2',e3',e4'⟩:=KJ.out.2.2.2;obtain ⟨pc',hbpy'⟩:=HPc.out y2 KJ.out.1;have HPt:Hid (∀ w',Bl y2 w'→Calls Tryz.prog 64 #[.agg #[.string (D b).name,.int .i64 (D b).solve,.slice (some ⟨bm,om,none⟩) (D b).n (C b)],.int .i64 m] w' fun e w''=>(∃ A c,e=.returned (.slice A (bz (D b).mem (D b).n m).length c)∧bW w'' A c (bz (D b).mem (D b).n m)∧∀ b o,A=some ⟨b,o,none⟩→w'.heap.size≤b)∧Bl w' w''):=fun w' hB=>yx (D b) bm om (C b) m w' V (HMm.out w' (ae KJ.out.1 hB))
 obtain ⟨P,KO⟩:=aA (bz (D b).mem (D b).n m);have HPm:Hid (∀ z∈P,∃ j:Nat,z=(j:Int)∧j<(D b).n):=fun z hz=>by
  rw [←KO] at hz;obtain ⟨j,h1,Q,-⟩:=cQ z hz;exact ⟨j,h1,Q⟩
 have KP:P.length≤12:=by rw [←KO];exact zV (cF _ _) V
 rw [KO] at HPt J;obtain ⟨NP,hNP⟩:=aA P.length;have HNP:=aa hNP;rw [hNP] at HPt KP;clear hBj hBy2 KO hNP e1 e2 e3 e4 pc m3 hbpy q0 q1 q2 cw1 u;go_wp2_with fail
 go_cut [19] from 92 (fun s19 wx=>(∃ A c,s19=.slice A NP c∧bW wx A c P∧∀ b o,A=some ⟨b,o,none⟩→y2.heap.size≤b)∧Bl y2 wx)
 case first =>
  go_region_law ((go_simp;refine (HPt.out _ (by go_grown)).mono ?_;rintro e w3 ⟨⟨A3,c3,rfl,hI3,KN⟩,hb3⟩;have hB3:=ae (W0:=y2) (by go_grown) hb3;have hN3':∀ b o,A3=some ⟨b,o,none⟩→y2.heap.size≤b:=fun b o e=>zV (by simp) (KN b o e);clear hb3 KN))
  all_goals go_wp2_with fail
  all_goals go_meet
  all_goals exact ⟨⟨A3,c3,rfl,hI3,hN3'⟩,hB3⟩
 case rest =>
 obtain ⟨⟨AP,cP,rfl,hI4,hN4⟩,KL⟩:=hcut;obtain ⟨w4,rfl⟩:∃ w4:World,w4=wc:=⟨_,rfl⟩;have HI4:=aa hI4;have HN4:=aa hN4;have HT4:=aa (KJ.out.later KL);have HBx4:Hid (w4.heap[wj.heap.size]?=some (.cells #[.int .i64 0,.int .i64 0] 52 (0,0))):=(KL.block _ hqk).trans HBx2.out;have hs4:=KL.size;have hNPI:(NP:Int)≤12:=by omega
 have HFin:Hid ((P.take NP).foldl (bd (D b).mem f) (0,0)=eu (D b) f m):=by show _=_;rw [J.out,←HNP.out,List.take_length]
 clear hI4 hN4 KL Y e1' e2' e3' e4' pc';go_wp2_with fail
 go_loopg [20] NP (fun gg s20 wr => ∃ (i:Nat) (a b':Int),i≤NP∧gg=NP-i∧s20=.int .i64 i∧Hid ((P.take i).foldl (bd (D b).mem f) (0,0)=(a,b'))∧Hid (wr.heap[wj.heap.size]?=some (.cells #[.int .i64 a,.int .i64 b'] 52 (0,0)))∧Hid (w4.grownBy wr (some wj.heap.size)))
 case atStart=>exact ⟨0,0,0,zU,rfl,rfl,(rfl:(P.take 0).foldl (bd (D b).mem f) (0,0)=(0,0)),HBx4,dg w4 _⟩
 case round =>
  obtain ⟨wi,rfl⟩:∃ wi:World,wi=wr:=⟨_,rfl⟩;obtain ⟨i,a,b',hi,rfl,rfl,KH,k,G⟩:=hrel;have KU:wj.heap.size<wi.heap.size:=(zY k.out).1;have p:Hid (rW w (some ⟨bo,oo,none⟩) cap n w1.heap.size (D b) (some ⟨bm,om,none⟩) (C b) wi):=HT4.out.grown G.out (by omega) (by omega)
  obtain ⟨s0,s1,f0,f1⟩:=cE k.out
  by_cases hil:i<NP
  ·have hii:(i:Int)<(NP:Int):=by omega
   have r:i<P.length:=by rw [HNP.out];exact hil
   have hIi:bW wi AP cP P:=by
    obtain ⟨h1,x | ⟨bq,Q,h3,h4⟩⟩:=HI4.out
    ·rw [x] at r;simp at r
    subst Q;exact xp ⟨h1,Or.inr ⟨bq,rfl,h3,h4⟩⟩ (by have:=HN4.out bq 0 rfl;omega) G.out
   obtain ⟨hcP,x | ⟨bq,rfl,hbq,E⟩⟩:=hIi
   ·rw [x] at r;simp at r
   have cp1:=E i r;rw [HNP.out] at hcP;have hmem:P.getD i 0∈P:=by rw [zZ,zX r];exact List.getElem_mem r
   obtain ⟨j,hj,KR⟩:=HPm.out _ hmem;have hMi:=HMm.out wi p.out.1;obtain ⟨-,-,m2,-⟩:=hMi.2 j KR;have hbmi:bm<wi.heap.size:=hMi.1;have hsg:=HSg.out j KR;obtain ⟨k1,k2,k3,k4⟩:=p.out.2.2.2;obtain ⟨hswi,cw⟩:=p.out.2.1;obtain ⟨y,u,Y,hy3⟩:=Aw HI.out t KR;have hyN:y<N:=by have:=HN.out;have:=HCL.out;omega
   have hyi:(y:Int)<(N:Int):=by omega
   have d:=rJ (M:=(D b).mem) (at':=f) r;rw [KH.out,hj] at d;have hfj:f (j:Int)=CL.getD y noC:=by rw [HFe.out,u];rfl
   unfold bd at d;rw [show ((j:Int)).toNat=j by omega,hfj] at d
   simp only at d;have H:b5 (CL.getD y noC):=zJ HGd.out (y:Int);have X:b5 (a,b'):=by rw [←KH.out];exact jD _ _ _ _ fq
   rw [hj] at cp1;obtain ⟨hcL,-,x | ⟨bc,oc,rfl,R⟩⟩:=HC.out.later p.out.1
   ·have:=HN.out;rw [x] at this;simp at this;omega
   obtain ⟨g1,g2⟩:=R.2 y (by rw [HN.out];exact hyN)
   have hbci:bc<wi.heap.size:=R.1;rw [HN.out] at hcL;have hcLI:(N:Int)≤(cc:Int):=by omega
   have O:Hid (∀ w',Bl wi w'→Calls Tryz.prog 61 #[.slice (some ⟨bp,op,none⟩) n cp,.int .i64 b,.int .i64 j] w' fun e w''=>(∃ A' Z,e=.returned (.slice A' n Z)∧a7 w'' A' Z (L.set b (j:Int)))∧Bl w' w''):=fun w' g=>by
    have h:=mB (some ⟨bp,op,none⟩) cp L b (j:Int) w' (by omega) (by omega) (HP.out.later (ae p.out.1 g))
    rw [hl] at h;exact h
   have HNum:Hid (∀ w' A' Z,Bl wi w'→a7 w' A' Z (L.set b (j:Int))→Rt 8 #[.agg #[.slice (some ⟨bo,oo,none⟩) n cap],.slice A' n Z] w' (.int .i64 y)):=fun w' A' Z g hp=>by
    have h:=fM (some ⟨bo,oo,none⟩) cap n D A C A' Z (L.set b (j:Int)) w' hy3 (HM.out.later (ae p.out.1 g)) hp;rw [u,List.length_set,hl] at h;exact h
   have S:=FP (ka:=a) (na:=b') (kb:=(CL.getD y noC).1) (nb:=(CL.getD y noC).2) X H;have T:=CE (ka:=a) (na:=b') (kb:=(CL.getD y noC).1) (nb:=(CL.getD y noC).2) X H;generalize (CL.getD y noC).1=v1 at g1 d S T;generalize (CL.getD y noC).2=v2 at g2 d S T;generalize ((D b).mem j).sign=sg at m2 d hsg;have HKp:Hid ((wj.heap.size<wi.heap.size∧w.heap.size<wi.heap.size∧bq<wi.heap.size∧bc<wi.heap.size)∧wi.cell? ⟨bq,i,none⟩=some (.int .i64 j)∧wi.cell? ⟨w.heap.size,0,none⟩=some (.slice (some ⟨bo,oo,none⟩) n cap)∧wi.cell? ⟨bc,oc+y*2,none⟩=some (.int .i64 v1)∧wi.cell? ⟨bc,oc+y*2+1,none⟩=some (.int .i64 v2)):=⟨⟨KU,hswi,hbq,hbci⟩,cp1,cw,g1,g2⟩;have s:Hid (∀ w',Bl wi w'→w'.cell? ⟨wj.heap.size,0,none⟩=some (.int .i64 a)∧w'.cell? ⟨wj.heap.size,1,none⟩=some (.int .i64 b')∧w'.frozen? ⟨wj.heap.size,0,none⟩=false∧w'.frozen? ⟨wj.heap.size,1,none⟩=false∧w'.cell? ⟨bq,i,none⟩=some (.int .i64 j)∧w'.cell? ⟨w.heap.size,0,none⟩=some (.slice (some ⟨bo,oo,none⟩) n cap)∧w'.cell? ⟨bc,oc+y*2,none⟩=some (.int .i64 v1)∧w'.cell? ⟨bc,oc+y*2+1,none⟩=some (.int .i64 v2)):=fun w' g=>by
    obtain ⟨p0,p1,p2,p3⟩:=cE ((g.block _ KU).trans k.out);obtain ⟨⟨-,z2,z3,z4⟩,z5,z6,z7,z8⟩:=HKp.out;exact ⟨p0,p1,p2,p3,aD g z3 z5,aD g z2 z6,aD g z4 z7,aD g z4 z8⟩
   have hjd:(j:Int)<((D b).n:Int):=by omega
   clear hmem hj hMi E u Y hy3 hfj H X r R k1 k2 k3
   by_cases hs0:sg=0
   ·subst hs0
    rw [if_neg (by decide),if_neg (by decide)] at d
    have I:=aa d;clear d hsg S T;go_wp2_with fail
    first | (go_quiet (fail);go_wp2_with fail) | skip
    go_roundg (NP-(i+1))
    case measure=>omega
    case rel=>first | exact ⟨i+1,a,b',by omega,rfl,by go_num,I,k,G⟩ | exact ⟨i+1,a,b',by omega,rfl,by go_num,I,k.out,fu G.out (ac (zS) _)⟩
   have hsn:(sg != 0)=true:=by simpa using hs0
   have HR:Hid (∃ rk rn:Int,(P.take (i+1)).foldl (bd (D b).mem f) (0,0)=(rk,rn)∧∀ w',Rt 65 #[.agg #[.int .i64 a,.int .i64 b'],.agg #[.int .i64 v1,.int .i64 v2],.int .i64 sg] w' (.agg #[.int .i64 rk,.int .i64 rn])):=by
    by_cases hs1:sg=1
    ·subst hs1
     rw [if_pos rfl] at d;exact ⟨_,_,d,S⟩
    have hs2:sg = -1:=by omega
    subst hs2;rw [if_neg (by decide),if_pos rfl] at d
    exact ⟨_,_,d,T⟩
   obtain ⟨rk,rn,hNi,KP⟩:=HR.out;have I:=aa hNi;have HPlus:=aa KP;clear d hsg S T hs0 hNi KP HR;go_wp2_with fail
   go_quiet (fail)
   go_wp2_with fail;generalize hwk:wi.drewN nq=wk;have hBk:Bl wi wk:=by rw [←hwk];exact ac (zS) _
   have KG:=aa hBk;have KK:Hid (∀ w',Bl wk w'→_):=fun w' g=>O.out w' (ae KG.out g)
   have HNum2:Hid (∀ w' A' Z,Bl wk w'→_):=fun w' A' Z g=>HNum.out w' A' Z (ae KG.out g)
   have l:Hid (∀ w',Bl wk w'→_):=fun w' g=>s.out w' (ae KG.out g)
   obtain ⟨j0,j1,j2,j3,j4,j5,j6,j7⟩:=s.out _ hBk;clear hwk hBk O HNum s s0 s1 f0 f1 cp1 m2 k4 g1 g2 cw hsn hmI hdI hsb1 hbo KV F hmn hd1 V hn1 hn4 hl hsw1 hLb KR hjd hbmi KN hf' hp3 HKp KH J HSg HTr HGd HFe
   go_region_law ((first
    | (go_simp;refine (KK.out _ (by go_grown)).mono ?_;rintro e w5 ⟨⟨A5,c5,rfl,hP5⟩,hb5⟩;have hN5:=ae (W0:=wk) (by go_grown) hb5;obtain ⟨l0,l1,l2,l3,l4,l5,l6,l7⟩:=l.out _ hN5;have HP5:=aa hP5;clear hb5 hP5 j0 j1 j2 j3 j4 j5 j6 j7)
    | (go_simp;refine (HNum2.out _ _ _ (by go_grown) (HP5.out.later (by go_grown))).mono ?_;rintro e w6 ⟨rfl,hb6⟩;have hN6:=ae (W0:=wk) (by go_grown) hb6;obtain ⟨n0,n1,n2,n3,n4,n5,n6,n7⟩:=l.out _ hN6;clear hb6 l0 l1 l2 l3 l4 l5 l6 l7)
    | (go_simp;refine (HPlus.out _).mono ?_;rintro e w7 ⟨rfl,hb7⟩;have hN7:=ae (W0:=wk) (by go_grown) hb7;obtain ⟨r0,r1,r2,r3,r4,r5,r6,r7⟩:=l.out _ hN7;have KI:=aa (ae KG.out hN7);clear hb7 n0 n1 n2 n3 n4 n5 n6 n7)))
   all_goals clear hN5 hN6 hN7
   all_goals go_wp2_with fail
   all_goals go_roundg (NP-(i+1))
   all_goals first
    | omega
    | exact ⟨i+1,rk,rn,by omega,rfl,by go_num,I,lk ((KI.out.block _ KU).trans k.out),iZ (fu G.out KI.out)⟩
    | exact ⟨i+1,rk,rn,by omega,rfl,by go_num,I,lk ((KI.out.block _ KU).trans k.out),ft (iZ (fu G.out KI.out))⟩
  have hie:i=NP:=by omega
  subst hie;have HV:Hid (eu (D b) f m=(a,b')):=by show _=_;rw [←HFin.out];exact KH.out
  obtain ⟨e0,e1,g0,g1⟩:=cE p.out.2.2.1;have hs1i:w.heap.size+1<wi.heap.size:=(zY p.out.2.2.1).1;go_wp2_with fail;refine bodyPost_ret (v:=.agg #[.int .i64 a,.int .i64 b']) (by simp [results,Tryz.results29,go_sem,e0,e1]) rfl ⟨by rw [HV.out],?_⟩
  exact (p.out.1.setCell (Nat.le_succ _) _).setCell (Nat.le_succ _) _
end Go.Proofs.YtompdcaikmekkaaGreatDoor
