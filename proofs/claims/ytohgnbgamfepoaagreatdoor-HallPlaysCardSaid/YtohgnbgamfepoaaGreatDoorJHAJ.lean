/- What add, join and set -/
import Derived.Lib.ItoaMem
import Derived.Lib.AtoiTie
import Derived.Test.YtohgnbgamfepoaaGreatDoorShelfF
import Derived.Lib.AtoiErrMem
import Derived.Test.YtohgnbgamfepoaaGreatDoorJHAI
namespace Go.Proofs.YtohgnbgamfepoaaGreatDoor
open ChangeShapes WideShapes ChangeAt RowKit
set_option maxRecDepth 99999
set_option maxHeartbeats 0
theorem Tryz.infoIntF:(Tryz.prog.info? 3).map (fun i=>(i.zero,i.size,i.bytes))=some (some (.int .i64 0),1,8):=by kernel_rfl
theorem Tryz.infoNdF:(Tryz.prog.info? 132).map (fun i=>(i.zero,i.size,i.bytes))=some (some (.agg #[.int .i64 0,.int .i64 0,.string ⟨#[]⟩,.int .i64 0,.int .i64 0]),5,48):=by kernel_rfl
def Fw (x:Nd):Value:=.agg #[.int .i64 x.op,.int .i64 x.n,.string x.name,.int .i64 x.left,.int .i64 x.right]
theorem BldV.reach {N p f i j:Nat} {AN AR AW:Option Addr} {b:Bld} {w W w2:World} {row:Option Nat} (h:BldV N p AN f AR i AW j b w) (c:Bl w W) (k:W.grownBy w2 row) (l:∀ g,row=some g→N≤g):w2.heap[p]?=w.heap[p]?:=by
 have a:=h.lt;have d:=h.low;exact (k.block p (zW a c.size) (fun e=>by have:=l p e.symm;omega)).trans (c.block p a)
theorem kr (w:World) (o o':Obj):((w.alloc o).alloc o').heap[w.heap.size+1]?=some o':=by
 have h:=heap_alloc_new (w.alloc o) o'
 simpa using h
theorem JN (w:World) (o o':Obj):((w.alloc o).alloc o').drew.heap[w.heap.size+1]?=some o':=kr w o o'
theorem qi (w:World) (o o':Obj):((w.alloc o).alloc o').heap[w.heap.size]?=some o:=by
 rw [heap_alloc_old _ _ (by simp)]
 exact heap_alloc_new w o
theorem JM (w:World) (o o':Obj):((w.alloc o).alloc o').drew.heap[w.heap.size]?=some o:=qi w o o'
theorem I3 (w:World) (o:Obj):(w.alloc o).drew.heap[w.heap.size]?=some o:=heap_alloc_new w o
theorem zE (N p:Nat) (b:Bld) (x:Nd) (w:World) (hN:N≤w.heap.size) (M:b.nodes.length≤200) (h2:b.ready.length≤200) (hB:dj N p b w) :
  Calls Tryz.prog 240 #[.pointer (some ⟨p,0,none⟩),Fw x] w fun e w'=>e=.returned (.tuple #[])∧dj N p (jZ x b) w'∧Kept N (fun k=>k=p) w w':=by
 obtain ⟨AN,z,AR,C,AW,Z,l⟩:=hB;obtain ⟨i0,O,U,V,X⟩:=info_parts Tryz.infoIntF;obtain ⟨i1,P,Q,R,S⟩:=info_parts Tryz.infoNdF;unfold Fw;have c0:=l.c0;have c1:=l.c1;have f0:=l.fr 0;have f1:=l.fr 1;have hlt:=l.lt;have HV:=aa l;obtain ⟨m,v⟩:=az b.nodes.length;obtain ⟨k,u⟩:=az b.ready.length;have Y:Hid (∀ w',Bl w w'→w'.ownsRow N 3 1 (.slice AR k C) k (aE b.ready)):=fun w' q=>by have:=(l.later q).rdy;rw [u] at this;exact this
 have r:Hid (∀ (W w2:World),Bl w W→W.grownBy w2 (Value.slice AR k C).ownBlock→w2.cell? ⟨p,1,none⟩=some (.slice AR k C)∧w2.frozen? ⟨p,1,none⟩=false):=by
  intro W w2 q s;have h:=l.reach q s (fun g e=>(aG l.rdy (by rw [u];exact e)).1)
  have G:=h.trans l.blk;exact ⟨by simp [World.cell?,G,u],by simp [World.frozen?,G]⟩
 have D:Hid (∀ (W w6:World) (gg j:Nat),Bl w W→W.heap.size=w.heap.size+2→W.heap[w.heap.size]?=some (.cells #[.int .i64 x.op,.int .i64 x.n,.string x.name,.int .i64 x.left,.int .i64 x.right] 132 (0,0))→W.grownBy w6 (Value.slice AR k C).ownBlock→w6.ownsRow N 3 1 (.slice (some ⟨gg,0,none⟩) (k+1) j) (k+1) (aE b.ready ++ [.int .i64 m])→((Value.slice AR k C).ownBlock=some gg∨gg=w.heap.size+2) →
   BldV N p AN z (some ⟨gg,0,none⟩) j AW Z ⟨b.nodes,b.ready ++ [(m:Int)],b.waiting⟩ (w6.setCell ⟨p,1,none⟩ (.slice (some ⟨gg,0,none⟩) (k+1) j))∧Kept N (fun k=>k=p) w (w6.setCell ⟨p,1,none⟩ (.slice (some ⟨gg,0,none⟩) (k+1) j))∧(w6.setCell ⟨p,1,none⟩ (.slice (some ⟨gg,0,none⟩) (k+1) j)).heap[w.heap.size]?=some (.cells #[.int .i64 x.op,.int .i64 x.n,.string x.name,.int .i64 x.left,.int .i64 x.right] 132 (0,0))):=by
  intro W w6 gg j q hz d s T o;have F:(b.ready ++ [(m:Int)]).length=k+1:=by simp [u]
  have h:=l.ready (L:=b.ready ++ [(m:Int)]) (g:=gg) (c:=j) (w2:=w6) hN q (by rw [u];exact s) (by rw [F,mapI_snoc];exact T) (by rw [u,hz];exact o)
  rw [F] at h;refine ⟨h.1,h.2,?_⟩;rw [ar _ _ _ _ _ (by omega),s.block w.heap.size (by omega) (fun e=>by have:=(aG l.rdy (by rw [u];exact e.symm)).2.1;omega)]
  exact d
 rw [v] at c0;rw [u] at c1;have hkm:(k:Int)≤200:=by omega
 clear l
 go_enter Tryz.func240,Tryz.ntmps240
 go_wp2_with fail
 go_cut [] from 4 (fun wx => ∃ A c,BldV N p AN z A c AW Z ⟨b.nodes,b.ready ++ [(m:Int)],b.waiting⟩ wx∧Kept N (fun k=>k=p) w wx∧wx.heap[w.heap.size]?=some (.cells #[.int .i64 x.op,.int .i64 x.n,.string x.name,.int .i64 x.left,.int .i64 x.right] 132 (0,0)))
 case first =>
  go_region_law (refine step_append_lies _ (by rfl) _ _ _ (by rfl) N 3 i0 _ 1 8 Tryz.underlying26 O U V X rfl (by omega) (.slice AR k C) k (aE b.ready) (by rfl) (Y.out _ (by go_grown)) ⟨w.heap.size+1,0,none⟩ 1 1 [.int .i64 m] (by rfl) (by rfl) (World.news_of_block (cs := #[.int .i64 m]) (t:=3) (fr:=(0,0)) (JN w _ _)) (by simp [Value.oneCell']) (by omega) (by unfold maxLen;omega) (by omega) (by simp;omega) (w.heap.size+2) (by simp) ?_;intro gg j w6 f a o H;obtain ⟨y1,y2⟩:=r.out _ _ (by go_grown) a)
  all_goals (have K:=D.out _ _ _ _ (by go_grown) (by simp) (JM w _ _) a f o)
  all_goals clear a f o
  all_goals (go_wp2_with fail;go_meet;exact ⟨_,_,K⟩)
 case rest =>
  obtain ⟨A1,K3,i,B,d⟩:=hcut;obtain ⟨wx,rfl⟩:∃ wx:World,wx=wc:=⟨_,rfl⟩;have d0:=i.c0;have g0:=i.fr 0;have u9:=i.lt;have K0:=B.size;have K2:=aa i;have I:=aa B;have hbs:w.heap.size<wx.heap.size:=(zY d).1;have b0:wx.cell? ⟨w.heap.size,0,none⟩=some (.int .i64 x.op):=by simp [World.cell?,d]
  have b1:wx.cell? ⟨w.heap.size,1,none⟩=some (.int .i64 x.n):=by simp [World.cell?,d]
  have b2:wx.cell? ⟨w.heap.size,2,none⟩=some (.string x.name):=by simp [World.cell?,d]
  have b3:wx.cell? ⟨w.heap.size,3,none⟩=some (.int .i64 x.left):=by simp [World.cell?,d]
  have b4:wx.cell? ⟨w.heap.size,4,none⟩=some (.int .i64 x.right):=by simp [World.cell?,d]
  rw [v] at d0;have J:Hid (∀ w',Bl wx w'→w'.ownsRow N 132 5 (.slice AN m z) m (aS b.nodes)):=fun w' q=>by have:=(i.later q).nod;rw [v] at this;exact this
  have y:Hid (∀ (W w2:World),Bl wx W→W.grownBy w2 (Value.slice AN m z).ownBlock→w2.cell? ⟨p,0,none⟩=some (.slice AN m z)∧w2.frozen? ⟨p,0,none⟩=false):=by
   intro W w2 q s;have h:=i.reach q s (fun g e=>(aG i.nod (by rw [v];exact e)).1)
   have G:=h.trans i.blk;exact ⟨by simp [World.cell?,G,v],by simp [World.frozen?,G]⟩
  have E:Hid (∀ (W w6:World) (gg j:Nat),Bl wx W→W.grownBy w6 (Value.slice AN m z).ownBlock→w6.ownsRow N 132 5 (.slice (some ⟨gg,0,none⟩) (m+1) j) (m+1) (aS b.nodes ++ [.int .i64 x.op,.int .i64 x.n,.string x.name,.int .i64 x.left,.int .i64 x.right]) →
    dj N p (jZ x b) (w6.setCell ⟨p,0,none⟩ (.slice (some ⟨gg,0,none⟩) (m+1) j))∧Kept N (fun k=>k=p) w (w6.setCell ⟨p,0,none⟩ (.slice (some ⟨gg,0,none⟩) (m+1) j))):=by
   intro W w6 gg j q s T;have F:(b.nodes ++ [x]).length=m+1:=by simp [v]
   have h:=i.node (L:=b.nodes ++ [x]) (g:=gg) (c:=j) (w2:=w6) (by omega) q (by rw [v];exact s) (by rw [F,mS];exact T)
   rw [F] at h;refine ⟨?_,I.out.trans h.2⟩;have M:=h.1;rw [←v] at M ⊢;exact ⟨_,_,_,_,_,_,M⟩
  clear i B HV Y r D;go_wp2_with fail
  go_region_law (refine step_append_lies _ (by rfl) _ _ _ (by rfl) N 132 i1 _ 5 48 Tryz.underlying117 P Q R S rfl (by omega) (.slice AN m z) m (aS b.nodes) (by rfl) (J.out _ (by go_grown)) ⟨wx.heap.size,0,none⟩ 1 1 [.int .i64 x.op,.int .i64 x.n,.string x.name,.int .i64 x.left,.int .i64 x.right] (by rfl) (by rfl) (World.news_of_block (cs := #[.int .i64 x.op,.int .i64 x.n,.string x.name,.int .i64 x.left,.int .i64 x.right]) (t:=132) (fr:=(0,0)) (I3 wx _)) (by simp [Value.oneCell']) (by omega) (by unfold maxLen;omega) (by omega) (by simp;omega) (wx.heap.size+1) (by simp) ?_;intro gg j w6 f a o H;obtain ⟨y1,y2⟩:=y.out _ _ (by go_grown) a)
  all_goals (have K:=E.out _ _ _ _ (by go_grown) a f)
  all_goals clear a f o
  all_goals (go_wp2_with fail;go_end0;exact ⟨rfl,K⟩)
theorem Fi (N p:Nat) (b:Bld) (op:Int) (w:World) (h:N≤w.heap.size) (C:b.nodes.length≤200) (Q:b.ready.length≤200) (R:2≤b.ready.length) (E:dj N p b w) :
  Calls Tryz.prog 252 #[.pointer (some ⟨p,0,none⟩),.int .i64 op] w fun e w'=>e=.returned (.tuple #[])∧dj N p (di op b) w'∧Kept N (fun k=>k=p) w w':=by
 obtain ⟨AN,K,AR,d,AW,L,a⟩:=E;obtain ⟨k,H⟩:∃ k,b.ready.length=k+2:=⟨b.ready.length-2,by omega⟩
 obtain ⟨g,n,M⟩:=nP (k:=k) a.rdy (by omega)
 obtain ⟨g',c,O⟩:=nP (k:=k+1) a.rdy (by omega)
 rw [n] at c;simp only [Option.some.injEq,Addr.mk.injEq] at c;obtain ⟨rfl,-⟩:=c;subst n;have c1:=a.c1;have P:=a.fr 1;have J:=a.lt;rw [H] at c1;have o:k+2≤d:=by
  rcases a.rdy.2 with ⟨f,_⟩ | ⟨g,cap,B,f,_,_,l,_⟩
  ·cases f
  cases f;omega
 have q:di op b=jZ ⟨op,0,⟨#[]⟩,b.ready.getD k 0,b.ready.getD (k+1) 0⟩ ⟨b.nodes,b.ready.take k,b.waiting⟩:=by
  unfold di;rw [show b.ready.length-2=k by omega]
 rw [q];have j:Hid (∀ w',Bl w w'→dj N p ⟨b.nodes,b.ready.take k,b.waiting⟩ (w'.setCell ⟨p,1,none⟩ (.slice (some ⟨g,0,none⟩) k d))∧Kept N (fun k=>k=p) w (w'.setCell ⟨p,1,none⟩ (.slice (some ⟨g,0,none⟩) k d))∧N≤(w'.setCell ⟨p,1,none⟩ (.slice (some ⟨g,0,none⟩) k d)).heap.size):=by
  intro w' i;obtain ⟨l,D⟩:=(a.later i).readyCut (k:=k) (zV h i.size) (by omega)
  have m:=(aw i h).trans D;exact ⟨⟨_,_,_,_,_,_,l⟩,m,zV h m.size⟩
 have I:(k:Int)≤200:=by omega
 have F:(k:Int)+2≤(d:Int):=by omega
 have G:g<w.heap.size:=(aG (g:=g) a.rdy rfl).2.1;generalize b.ready.getD k 0=x at *;generalize b.ready.getD (k+1) 0=y at *;clear a q
 go_enter Tryz.func252,Tryz.ntmps252
 go_wp2_with fail
 go_quiet (fail)
 go_wp2_with fail;obtain ⟨r,s,t⟩:=j.out (w.drewN nq) (ac (zS) nq);refine (zE N p ⟨b.nodes,b.ready.take k,b.waiting⟩ ⟨op,0,⟨#[]⟩,x,y⟩ _ t C (by simp;omega) r).mono ?_
 rintro e w2 ⟨rfl,u,v⟩;have A:=aa (s.trans v);have z:=aa u;clear r s t u v j;go_wp2_with fail
 first | go_end0 | refine bodyPost_ret (results_none rfl _ _ _) rfl ?_
 exact ⟨rfl,z.out,A.out⟩
theorem uw {op:Int} {b:Bld} (h:2≤b.ready.length):(di op b).nodes.length=b.nodes.length+1∧(di op b).ready.length+1=b.ready.length∧(di op b).waiting=b.waiting:=by
 refine ⟨by simp [di,jZ],?_,rfl⟩
 simp [di,jZ]
 omega
theorem pz {l:List Int} {k:Nat} (h:l.length=k+1):opsN l=opsN (l.take k)+(if l.getD k 0≠0 then 1 else 0)∧dY l=dY (l.take k)+(if l.getD k 0=0 then 1 else 0):=by
 have a:l=l.take k ++ [l.getD k 0]:=by
  have b:l.getD k 0=l[k]'(by omega):=by simp [List.getD,zX (show k<l.length by omega)]
  rw [b]
  conv=>lhs;rw [←List.take_append_drop k l]
  congr 1
  rw [List.drop_eq_getElem_cons (by omega),List.drop_eq_nil_of_le (by omega)]
 constructor
 ·conv=>lhs;rw [a]
  unfold opsN;rw [List.countP_append]
  by_cases e:l.getD k 0=0 <;> simp
 conv=>lhs;rw [a]
 unfold dY;rw [List.countP_append]
 by_cases e:l.getD k 0=0 <;> simp
theorem fQ {least:Int} {b:Bld} {k:Nat} (h:b.waiting.getD k 0=0∨bindN (b.waiting.getD k 0)<least):bh least (k+1) b=b:=by rw [bh,if_pos h]
theorem jV {least:Int} {b:Bld} {k:Nat} (h : ¬ (b.waiting.getD k 0=0∨bindN (b.waiting.getD k 0)<least)):bh least (k+1) b=bh least k (di (b.waiting.getD k 0) ⟨b.nodes,b.ready,b.waiting.take k⟩):=by rw [bh,if_neg h]
theorem kN (N p:Nat) (b:Bld) (least:Int) (w:World) (hN:N≤w.heap.size) (X:b.nodes.length+opsN b.waiting≤200) (Y:b.ready.length≤200) (Z:opsN b.waiting+1≤b.ready.length) (h4:b.waiting.length≤200) (hB:dj N p b w) :
  Calls Tryz.prog 237 #[.pointer (some ⟨p,0,none⟩),.int .i64 least] w fun e w'=>e=.returned (.tuple #[])∧dj N p (settleB least b) w'∧Kept N (fun k=>k=p) w w':=by
 obtain ⟨AN,cN,AR,cR,AW,cW,B⟩:=hB;have c2:=B.c2;have hlt:=B.lt;have HV:=aa B;obtain ⟨n0,q⟩:∃ n,b.waiting.length=n:=⟨_,rfl⟩;rw [q] at c2;have hni:(n0:Int)≤200:=by omega
 unfold settleB;have G:=aa q;rw [q];clear B q
 go_enter Tryz.func237,Tryz.ntmps237
 go_wp2_with fail
 go_loopg [4] n0 (fun g s4 wr => ∃ (b':Bld),b'.waiting.length=g∧s4=.int .i64 ((g:Int)-1)∧bh least g b'=bh least n0 b∧g≤n0∧b'.nodes.length+opsN b'.waiting≤200∧b'.ready.length≤200∧opsN b'.waiting+1≤b'.ready.length∧dj N p b' wr∧Kept N (fun k=>k=p) w wr)
 case atStart=>exact ⟨b,G.out,rfl,rfl,zT,X,Y,Z,⟨_,_,_,_,_,_,HV.out⟩,Kept.refl _ _ _⟩
 case round =>
  obtain ⟨b',C,rfl,r,hgn,k1,k2,k3,⟨AN',S,AR',T,AW',m,a⟩,A⟩:=hrel;have l:=aa a;have z:=aa A;have u:=aa r;have V:=a.c2;have df:=a.fr 2;have f:N≤wr.heap.size:=zV hN A.size;cases gk with
  | zero =>
   have s:=aa r;clear a A r;go_wp2_with fail
   first | go_end0 | refine bodyPost_ret (results_none rfl _ _ _) rfl ?_
   exact ⟨rfl,by rw [←s.out];exact ⟨_,_,_,_,_,_,l.out⟩,z.out⟩
  | succ k =>
   obtain ⟨x,-⟩:=pz C;obtain ⟨g,hA,W⟩:=nP (k:=k) a.wai (by omega)
   subst hA;have hgl:g<wr.heap.size:=(aG (g:=g) a.wai rfl).2.1;have J:k+1≤m:=by
    rcases a.wai.2 with ⟨I,_⟩ | ⟨g,cap,U,I,_,_,h5,_⟩
    ·cases I
    cases I;omega
   rw [C] at V;have hki:(k:Int)≤200:=by omega
   have hci:(k:Int)+1≤(m:Int):=by omega
   have y:((k+1:Nat):Int)-1=(k:Int):=by omega
   obtain ⟨op,d⟩:=az (b'.waiting.getD k 0);rw [d] at W x;have E:=aa C;have o:=qL op;rw [y];clear a A r C
   by_cases h:op=0
   ·have s:Hid (b'=bh least n0 b):=by show _=_;rw [←u.out];exact (fQ (Or.inl (by rw [d];exact h))).symm
    subst h;clear o;go_wp2_with fail
    first | go_end0 | refine bodyPost_ret (results_none rfl _ _ _) rfl ?_
    exact ⟨rfl,by rw [←s.out];exact ⟨_,_,_,_,_,_,l.out⟩,z.out⟩
   have L:(op == 0)=false:=by simpa using h
   by_cases v:bindN op<least
   ·have s:Hid (b'=bh least n0 b):=by show _=_;rw [←u.out];exact (fQ (Or.inr (by rw [d];exact v))).symm
    generalize bindN op=bn at *;clear d;go_wp2_with fail;refine (o _).mono ?_;rintro e w1 ⟨rfl,c⟩;have j:=aa (l.out.later c);have t:=aa (z.out.trans (aw c f));clear c;go_wp2_with fail
    first | go_end0 | refine bodyPost_ret (results_none rfl _ _ _) rfl ?_
    exact ⟨rfl,by rw [←s.out];exact ⟨_,_,_,_,_,_,j.out⟩,t.out⟩
   have s:Hid (bh least k (di op ⟨b'.nodes,b'.ready,b'.waiting.take k⟩)=bh least n0 b):=by
    show _=_
    rw [←u.out,jV (by rw [d];omega),d]
   rw [if_pos h] at x;have K:least≤bindN op:=by omega
   generalize bindN op=bn at *;clear d v;go_wp2_with fail;refine (o _).mono ?_;rintro e w1 ⟨rfl,c⟩;have j:=aa (l.out.later c);have t:=aa (z.out.trans (aw c f));have x2:=j.out.c2;have xf:=j.out.fr 2;rw [E.out] at x2;have i:N≤w1.heap.size:=zV f c.size;obtain ⟨P,Q⟩:=j.out.waitCut (k:=k) i (by have:=E.out;omega)
   have H:Hid (dj N p ⟨b'.nodes,b'.ready,b'.waiting.take k⟩ (w1.setCell ⟨p,2,none⟩ (.slice (some ⟨g,0,none⟩) k m))∧Kept N (fun k=>k=p) w1 (w1.setCell ⟨p,2,none⟩ (.slice (some ⟨g,0,none⟩) k m))):=⟨⟨_,_,_,_,_,_,P⟩,Q⟩
   clear c o P Q;go_wp2_with fail;refine (Fi N p ⟨b'.nodes,b'.ready,b'.waiting.take k⟩ op _ (zV i H.out.2.size) (by show b'.nodes.length≤200;omega) k2 (by show 2≤b'.ready.length;omega) H.out.1).mono ?_
   rintro e w2 ⟨rfl,M,O⟩;have F:=aa ((t.out.trans H.out.2).trans O);have D:=aa M;obtain ⟨l1,l2,l3⟩:=uw (op:=op) (b:=⟨b'.nodes,b'.ready,b'.waiting.take k⟩) (by show 2≤b'.ready.length;omega)
   have R:Hid ((di op ⟨b'.nodes,b'.ready,b'.waiting.take k⟩).nodes.length=b'.nodes.length+1∧(di op ⟨b'.nodes,b'.ready,b'.waiting.take k⟩).ready.length+1=b'.ready.length∧(di op ⟨b'.nodes,b'.ready,b'.waiting.take k⟩).waiting=b'.waiting.take k):=⟨l1,l2,l3⟩;clear M O l1 l2 l3;go_wp2_with fail
   go_roundg k
   case measure=>omega
   case rel =>
    obtain ⟨l1,l2,l3⟩:=R.out;refine ⟨_,?_,by go_num,s.out,by omega,?_,?_,?_,D.out,F.out⟩
    ·rw [l3,List.length_take,E.out];omega
    ·rw [l3,l1];omega
    ·omega
    rw [l3];omega
theorem t6:∀ (l:List UInt8) (acc:Nat),(∀ b∈l,48≤b.toNat∧b.toNat≤57)→∃ m:Nat,Lib.decFrom acc l=some m∧l.foldl (fun n c=>n*10+((c.toNat:Int)-48)) (acc:Int)=(m:Int)
 | [],acc,_=>⟨acc,rfl,rfl⟩
 | b :: r,acc,h=>by
  have e:=h b (List.mem_cons_self ..);have g:Lib.digitVal b=some (b.toNat-48):=by unfold Lib.digitVal;rw [if_pos e]
  obtain ⟨m,a,d⟩:=t6 r (acc*10+(b.toNat-48)) (fun c f=>h c (List.mem_cons_of_mem _ f))
  refine ⟨m,?_,?_⟩
  ·simp only [Lib.decFrom,g];exact a
  rw [List.foldl_cons,←d]
  congr 1
  omega
theorem wO {t:ByteArray} (h:∀ i,i<t.size→b9 (byteN t i)=true):∀ b∈t.data.toList,48≤b.toNat∧b.toNat≤57:=by
 intro b d;obtain ⟨i,c,rfl⟩:=List.getElem_of_mem d;have a:=h i (by simpa using c)
 unfold byteN b9 at a;rw [List.getD,zX c] at a;simp only [Option.getD_some,Bool.and_eq_true,decide_eq_true_eq] at a
 omega
theorem Ek {t:ByteArray} (n:1≤t.size) (h:∀ i,i<t.size→b9 (byteN t i)=true):Lib.atoi t.data.toList=some (numW t):=by
 have a:=wO h;obtain ⟨m,f,g⟩:=t6 t.data.toList 0 a;unfold numW;have l:((0:Nat):Int)=0:=rfl;rw [l] at g;rw [g];have c:t.data.toList≠[]:=by
  intro e;have:t.data.toList.length=0:=by rw [e];rfl
  have o:t.size=t.data.toList.length:=by simp
  omega
 cases hl:t.data.toList with
 | nil=>exact absurd hl c
 | cons b r =>
  rw [hl] at a f;have d:=a b (List.mem_cons_self ..);have j:(b == 45)=false:=by
   apply Bool.eq_false_iff.2;intro e;rw [beq_iff_eq] at e;subst e;revert d;decide
  have k:(b == 43)=false:=by
   apply Bool.eq_false_iff.2;intro e;rw [beq_iff_eq] at e;subst e;revert d;decide
  simp only [Lib.atoi,j,k,Bool.false_eq_true,if_false];unfold Lib.decNat;rw [if_neg (by simp),f]
  rfl
theorem BE (t:ByteArray) (w:World) (a:1≤t.size) (d:t.size≤7) (h:∀ i,i<t.size→b9 (byteN t i)=true):Rt 255 #[.string t] w (.tuple #[.int .i64 (numW t),.nilIface]) :=
 (Any.strconv_Atoi Tryz.lays172 t (numW t) (by omega) (Ek a h) w).mono fun e w' ⟨b,x,c⟩=>⟨b,by rw [c];exact Lib.bytesWorld_below _ _ _⟩
theorem ge (x:Nd):Fw x=.agg #[.int .i64 x.op,.int .i64 x.n,.string x.name,.int .i64 x.left,.int .i64 x.right]:=rfl
theorem v8 {w w1 w2:World} (b:Below (w.alloc (.cells #[.int .i64 0,.int .i64 0,.string ⟨#[]⟩,.int .i64 0,.int .i64 0] 132)).heap.size (w.alloc (.cells #[.int .i64 0,.int .i64 0,.string ⟨#[]⟩,.int .i64 0,.int .i64 0] 132)) w1) (c:Bl w1 w2) :
  Bl w w2∧(∀ j,w2.frozen? ⟨w.heap.size,j,none⟩=false)∧w2.cell? ⟨w.heap.size,0,none⟩=some (.int .i64 0)∧w2.cell? ⟨w.heap.size,1,none⟩=some (.int .i64 0)∧w2.cell? ⟨w.heap.size,2,none⟩=some (.string ⟨#[]⟩)∧w2.cell? ⟨w.heap.size,3,none⟩=some (.int .i64 0)∧w2.cell? ⟨w.heap.size,4,none⟩=some (.int .i64 0):=by
 have a:=ae b c;have d:w.heap.size<(w.alloc (.cells #[.int .i64 0,.int .i64 0,.string ⟨#[]⟩,.int .i64 0,.int .i64 0] 132)).heap.size:=by simp
 have h:=(a.block _ d).trans (heap_alloc_new w _);exact ⟨ae (by go_grown) a,fun j=>by simp [World.frozen?,h],by simp [World.cell?,h],by simp [World.cell?,h],by simp [World.cell?,h],by simp [World.cell?,h],by simp [World.cell?,h]⟩
theorem uZ (t:ByteArray) (w:World) (z:1≤t.size) (I:t.size≤1000) (h:bG (byteN t 0)=true∨(t.size≤7∧∀ i,i<t.size→b9 (byteN t i)=true)):Rt 241 #[.string t] w (Fw (opndN t)):=by
 have f:=islet_any (byteN t 0);have C:=da t 0 (by omega)
 have A:0<(t.size:Int):=by omega
 by_cases g:bG (byteN t 0)=true
 ·have k:opndN t=⟨2,0,t,0,0⟩:=by
   unfold opndN bG at *
   simp at g
   rw [if_pos (by omega)]
  have p:=fun w=>kM t w (by omega)
  rw [k,ge];rw [g] at f;clear h g k;generalize byteN t 0=c at *
  go_enter Tryz.func241,Tryz.ntmps241
  go_wp2_with fail;refine (f _).mono ?_;rintro e w1 ⟨rfl,b⟩;go_wp2_with fail;refine (p _).mono ?_;rintro e w2 ⟨rfl,d⟩;obtain ⟨j,a,q,r,s,u,x⟩:=v8 b d;have m:=aa j;have D:=a 0;have E:=a 1;have F:=a 2;have G:=a 3;have H:=a 4;clear b d j a;go_wp2_with fail;refine bodyPost_ret (v:=.agg #[.int .i64 2,.int .i64 0,.string t,.int .i64 0,.int .i64 0]) (by simp [results,Tryz.results241,go_sem,q,r,s,u,x]) rfl ⟨rfl,?_⟩
  exact ((((m.out.setCell (zT) _).setCell (zT) _).setCell (zT) _).setCell (zT) _).setCell (zT) _
 have l:bG (byteN t 0)=false:=by simpa using g
 obtain ⟨B,y⟩:=h.resolve_left g;have k:opndN t=⟨1,numW t,⟨#[]⟩,0,0⟩:=by
  unfold opndN bG at *
  simp at g
  rw [if_neg (by omega)]
 have o:=fun w=>BE t w z B y
 rw [k,ge];rw [l] at f;clear h g k y l;generalize byteN t 0=c at *;generalize numW t=n at *
 go_enter Tryz.func241,Tryz.ntmps241
 go_wp2_with fail;refine (f _).mono ?_;rintro e w1 ⟨rfl,b⟩;go_wp2_with fail;refine (o _).mono ?_;rintro e w2 ⟨rfl,d⟩;obtain ⟨j,a,q,r,s,u,x⟩:=v8 b d;have m:=aa j;have D:=a 0;have E:=a 1;have F:=a 2;have G:=a 3;have H:=a 4;clear b d j a;go_wp2_with fail;refine bodyPost_ret (v:=.agg #[.int .i64 1,.int .i64 n,.string ⟨#[]⟩,.int .i64 0,.int .i64 0]) (by simp [results,Tryz.results241,go_sem,q,r,s,u,x]) rfl ⟨rfl,?_⟩
 exact ((((m.out.setCell (zT) _).setCell (zT) _).setCell (zT) _).setCell (zT) _).setCell (zT) _
structure FitB (a o:Nat) (ph:Bool) (b:Bld):Prop where
 zero:dY b.waiting=o
 ops:opsN b.waiting+(if ph then 1 else 0)≤b.ready.length
 nodes:b.nodes.length+opsN b.waiting≤a
 wait:b.waiting.length≤a
 ready:b.ready.length≤a
theorem BldV.push {N p o q a k g c:Nat} {AN AR AW:Option Addr} {b:Bld} {w W w6:World} {x:Int} (d:BldV N p AN o AR q AW a b w) (r:N≤w.heap.size) (s:b.waiting.length=k) (l:Bl w W) (m:W.grownBy w6 (Value.slice AW k a).ownBlock)
  (t:w6.ownsRow N 3 1 (.slice (some ⟨g,0,none⟩) (k+1) c) (k+1) (aE b.waiting ++ [.int .i64 x])) (i:(Value.slice AW k a).ownBlock=some g∨g=W.heap.size) :
  (w6.cell? ⟨p,2,none⟩=some (.slice AW k a)∧w6.frozen? ⟨p,2,none⟩=false)∧dj N p ⟨b.nodes,b.ready,b.waiting ++ [x]⟩ (w6.setCell ⟨p,2,none⟩ (.slice (some ⟨g,0,none⟩) (k+1) c))∧Kept N (fun k=>k=p) w (w6.setCell ⟨p,2,none⟩ (.slice (some ⟨g,0,none⟩) (k+1) c)):=by
 subst s;have h:=d.reach l m (fun g e=>(aG d.wai e).1)
 have n:=h.trans d.blk;refine ⟨⟨by simp [World.cell?,n],by simp [World.frozen?,n]⟩,?_⟩
 have j:(b.waiting ++ [x]).length=b.waiting.length+1:=by simp
 have f:=d.wait (L:=b.waiting ++ [x]) (g:=g) (c:=c) (w2:=w6) r l m (by rw [j,mapI_snoc];exact t) i
 rw [j] at f;exact ⟨⟨_,_,_,_,_,_,f.1⟩,f.2⟩
theorem pW (least:Int):∀ (k:Nat) (b:Bld),b.waiting.length=k→opsN b.waiting+1≤b.ready.length →
  dY (bh least k b).waiting=dY b.waiting∧(bh least k b).ready.length+opsN b.waiting=b.ready.length+opsN (bh least k b).waiting∧(bh least k b).nodes.length+opsN (bh least k b).waiting=b.nodes.length+opsN b.waiting∧(bh least k b).waiting.length≤b.waiting.length∧opsN (bh least k b).waiting≤opsN b.waiting
 | 0,b,_,_=>⟨rfl,rfl,rfl,zT,zT⟩
 | k+1,b,hk,hr=>by
  by_cases h:b.waiting.getD k 0=0∨bindN (b.waiting.getD k 0)<least
  ·rw [fQ h];exact ⟨rfl,rfl,rfl,zT,zT⟩
  rw [jV h];obtain ⟨o1,o2⟩:=pz hk;have a:b.waiting.getD k 0≠0:=fun e=>h (Or.inl e)
  rw [if_pos a] at o1;rw [if_neg a] at o2;obtain ⟨l1,l2,l3⟩:=uw (op:=b.waiting.getD k 0) (b:=⟨b.nodes,b.ready,b.waiting.take k⟩) (by show 2≤b.ready.length;omega)
  have c:(di (b.waiting.getD k 0) ⟨b.nodes,b.ready,b.waiting.take k⟩).waiting.length=k:=by rw [l3];simp;omega
  simp only at l1 l2 l3;obtain ⟨d,f,g,j,i⟩:=pW least k (di (b.waiting.getD k 0) ⟨b.nodes,b.ready,b.waiting.take k⟩) c (by rw [l3];omega)
  rw [l3] at d f g i;exact ⟨by omega,by omega,by omega,by omega,by omega⟩
theorem g8 (least:Int) (b:Bld) (h:opsN b.waiting+1≤b.ready.length) :
  dY (settleB least b).waiting=dY b.waiting∧(settleB least b).ready.length+opsN b.waiting=b.ready.length+opsN (settleB least b).waiting∧(settleB least b).nodes.length+opsN (settleB least b).waiting=b.nodes.length+opsN b.waiting∧(settleB least b).waiting.length≤b.waiting.length∧opsN (settleB least b).waiting≤opsN b.waiting:=pW least _ b rfl h
theorem ns:∀ (k:Nat) (b:Bld),b.waiting.length=k→∀ j,(bh 0 k b).waiting.length=j+1→(bh 0 k b).waiting.getD j 0=0
 | 0,b,hk,j,h=>by rw [bh] at h;omega
 | k+1,b,hk,j,h=>by
  by_cases a:b.waiting.getD k 0=0∨bindN (b.waiting.getD k 0)<0
  ·rw [fQ a] at h ⊢
   have e:j=k:=by omega
   rw [e];exact a.resolve_right (by have:=oi (b.waiting.getD k 0);omega)
  rw [jV a] at h ⊢;exact ns k _ (by show (b.waiting.take k).length=k;simp;omega) j h
theorem pY {c:Int} (h:0≤signI c):(c=43∧signI c=0)∨(c=45∧signI c=1)∨(c=42∧signI c=2)∨(c=47∧signI c=3):=by
 unfold signI at *
 by_cases a:c=43
 ·left;exact ⟨a,by rw [if_pos a]⟩
 by_cases b:c=45
 ·right;left;exact ⟨b,by rw [if_neg a,if_pos b]⟩
 by_cases d:c=42
 ·right;right;left;exact ⟨d,by rw [if_neg a,if_neg b,if_pos d]⟩
 by_cases e:c=47
 ·right;right;right;exact ⟨e,by rw [if_neg a,if_neg b,if_neg d,if_pos e]⟩
 rw [if_neg a,if_neg b,if_neg d,if_neg e] at h;omega
theorem GC (N p:Nat) (b:Bld) (t:ByteArray) (w:World) (z:N≤w.heap.size) (G:t.size=1) (f:byteN t 0=40) (H:b.waiting.length≤200) (y:dj N p b w) :
  Calls Tryz.prog 208 #[.pointer (some ⟨p,0,none⟩),.string t] w fun e w'=>e=.returned (.tuple #[])∧dj N p ⟨b.nodes,b.ready,b.waiting ++ [0]⟩ w'∧Kept N (fun k=>k=p) w w':=by
 obtain ⟨i0,l,n,o,q⟩:=info_parts Tryz.infoIntF;obtain ⟨AN,D,AR,E,AW,v,h⟩:=y;have j:=da t 0 (by omega)
 rw [f] at j;have x:0<(t.size:Int):=by omega
 have c2:=h.c2;have C:=h.lt;obtain ⟨k,m⟩:=az b.waiting.length;rw [m] at c2;have B:(k:Int)≤200:=by omega
 have s:Hid (∀ w',Bl w w'→w'.ownsRow N 3 1 (.slice AW k v) k (aE b.waiting)):=fun w' A=>by have:=(h.later A).wai;rw [m] at this;exact this
 have HV:=aa h;clear h f
 go_enter Tryz.func208,Tryz.ntmps208
 go_wp2_with (at_builtin;refine wpList_append_lies _ rfl _ _ 26 rfl N 3 i0 (.int .i64 0) 1 8 Tryz.underlying26 l n o q rfl (by decide) _ _ _ rfl (s.out _ (by go_grown)) ⟨w.heap.size,0,none⟩ 1 1 [.int .i64 0] rfl rfl bz dG (by omega) (by unfold maxLen;omega) (by omega) (by simp;omega) (w.heap.size+1) (by simp) ?_)
 intro g F w6 d c a i;obtain ⟨⟨I,J⟩,r⟩:=HV.out.push z m (by go_grown) c d (by rcases a with a | a;exact Or.inl a;exact Or.inr (by simp;omega))
 have u:=aa r;clear d c a i r;go_wp2_with fail
 first | go_end0 | refine bodyPost_ret (results_none rfl _ _ _) rfl ?_
 exact ⟨rfl,u.out⟩
theorem GB (N p:Nat) (b:Bld) (t:ByteArray) (w:World) (q:N≤w.heap.size) (O:t.size=1) (c:byteN t 0=41) (F:b.nodes.length+opsN b.waiting≤200) (G:b.ready.length≤200) (v:opsN b.waiting+1≤b.ready.length) (H:b.waiting.length≤200) (P:1≤dY b.waiting) (o:dj N p b w) :
  Calls Tryz.prog 208 #[.pointer (some ⟨p,0,none⟩),.string t] w fun e w'=>e=.returned (.tuple #[])∧dj N p ⟨(settleB 0 b).nodes,(settleB 0 b).ready,(settleB 0 b).waiting.take ((settleB 0 b).waiting.length-1)⟩ w'∧Kept N (fun k=>k=p) w w':=by
 have m:=da t 0 (by omega)
 rw [c] at m;have z:0<(t.size:Int):=by omega
 have f:=kN N p b 0 w q F G v H o;obtain ⟨Q,R,S,T,U⟩:=g8 0 b v;have u:1≤(settleB 0 b).waiting.length:=by have:=GW (settleB 0 b).waiting;omega
 generalize settleB 0 b=b1 at *;obtain ⟨k,s⟩:∃ k,b1.waiting.length=k+1:=⟨b1.waiting.length-1,by omega⟩
 rw [s,Nat.add_sub_cancel];have D:(k:Int)≤200:=by omega
 clear c o
 go_enter Tryz.func208,Tryz.ntmps208
 go_wp2_with fail;refine f.mono ?_;rintro e w1 ⟨rfl,⟨AN,J,AR,K,AW,h,a⟩,i⟩;have HV:=aa a;have I:=aa i;obtain ⟨g,B,M⟩:=nP (k:=k) a.wai (by omega)
 subst B;have r:k+1≤h:=by
  rcases a.wai.2 with ⟨j,_⟩ | ⟨g,cap,y,j,_,_,n,_⟩
  ·cases j
  cases j;omega
 have C:(k:Int)+1≤(h:Int):=by omega
 have c2:=a.c2;have L:=a.fr 2;have E:=a.lt;rw [s] at c2;have x:Hid (∀ w',Bl w1 w'→dj N p ⟨b1.nodes,b1.ready,b1.waiting.take k⟩ (w'.setCell ⟨p,2,none⟩ (.slice (some ⟨g,0,none⟩) k h))∧Kept N (fun k=>k=p) w (w'.setCell ⟨p,2,none⟩ (.slice (some ⟨g,0,none⟩) k h))):=by
  intro w' l;have d:N≤w1.heap.size:=zV q i.size;obtain ⟨A,n⟩:=(a.later l).waitCut (k:=k) (zV d l.size) (by omega)
  exact ⟨⟨_,_,_,_,_,_,A⟩,(i.trans (aw l d)).trans n⟩
 clear a i f;go_wp2_with fail
 go_region
 all_goals (go_wp2_with fail;first | go_end0 | refine bodyPost_ret (results_none rfl _ _ _) rfl ?_)
 all_goals exact ⟨rfl,x.out w1.drew (by go_grown)⟩
theorem vX (N p:Nat) (b:Bld) (t:ByteArray) (w:World) (r:N≤w.heap.size) (z:1≤t.size) (B:t.size≤1000) (h:bG (byteN t 0)=true∨(t.size≤7∧∀ i,i<t.size→b9 (byteN t i)=true)) (D:b.nodes.length≤200) (E:b.ready.length≤200) (q:dj N p b w) :
  Calls Tryz.prog 208 #[.pointer (some ⟨p,0,none⟩),.string t] w fun e w'=>e=.returned (.tuple #[])∧dj N p (jZ (opndN t) b) w'∧Kept N (fun k=>k=p) w w':=by
 have C:=da t 0 (by omega)
 have A:0<(t.size:Int):=by omega
 have P:48≤byteN t 0:=by
  rcases h with h | ⟨-,h⟩
  ·unfold bG at h;simp at h;omega
  have:=h 0 (by omega);unfold b9 at this;simp at this;omega
 have o:=uZ t;have n:(byteN t 0 == 40)=false∧(byteN t 0 == 41)=false∧(byteN t 0 == 43)=false∧(byteN t 0 == 45)=false∧(byteN t 0 == 42)=false∧(byteN t 0 == 47)=false:=by
  refine ⟨?_,?_,?_,?_,?_,?_⟩ <;> (apply Bool.eq_false_iff.2;intro e;rw [beq_iff_eq] at e;omega)
 obtain ⟨I,J,K,L,M,O⟩:=n;have l:Hid (∀ w,Rt 241 #[.string t] w (Fw (opndN t))):=fun w=>uZ t w z B h
 have y:=aa q;clear h q o;generalize byteN t 0=c at *;generalize opndN t=x at *
 go_enter Tryz.func208,Tryz.ntmps208
 go_wp2_with fail;refine (l.out _).mono ?_;rintro e w1 ⟨rfl,a⟩;obtain ⟨AN,F,AR,G,AW,H,s⟩:=y.out;have d:Hid (dj N p b w1):=⟨_,_,_,_,_,_,s.later a⟩;have g:Hid (Kept N (fun k=>k=p) w w1):=aw a r
 have m:N≤w1.heap.size:=zV r a.size;clear s a;go_wp2_with fail;refine (zE N p b x w1 m D E d.out).mono ?_;rintro e w2 ⟨rfl,u,v⟩;have j:=aa (g.out.trans v);have f:=aa u;clear u v;go_wp2_with fail
 first | go_end0 | refine bodyPost_ret (results_none rfl _ _ _) rfl ?_
 exact ⟨rfl,f.out,j.out⟩
theorem GD (N p:Nat) (b:Bld) (t:ByteArray) (w:World) (D:N≤w.heap.size) (h1:t.size=1) (c i:Int) (O:byteN t 0=c) (P:signI c=i) (h:(c=43∧i=0)∨(c=45∧i=1)∨(c=42∧i=2)∨(c=47∧i=3)) (k1:b.nodes.length+opsN b.waiting≤200) (k2:b.ready.length≤200) (R:opsN b.waiting+1≤b.ready.length) (k4:b.waiting.length≤200) (M:dj N p b w) :
  Calls Tryz.prog 208 #[.pointer (some ⟨p,0,none⟩),.string t] w fun e w'=>e=.returned (.tuple #[])∧dj N p ⟨(settleB (bindN (3+i)) b).nodes,(settleB (bindN (3+i)) b).ready,(settleB (bindN (3+i)) b).waiting ++ [3+i]⟩ w'∧Kept N (fun k=>k=p) w w':=by
 obtain ⟨i0,H,J,K,L⟩:=info_parts Tryz.infoIntF;have G:=da t 0 (by omega)
 rw [O] at G;have Z:0<(t.size:Int):=by omega
 have s:=pZ c (by omega) (by omega)
 rw [P] at s;have r:=qL (3+i);have v:=fun w1 h=>kN N p b (bindN (3+i)) w1 h k1 k2 R k4
 obtain ⟨q1,q2,q3,q4,q5⟩:=g8 (bindN (3+i)) b R;generalize settleB (bindN (3+i)) b=b1 at *;generalize bindN (3+i)=bn at *;have B:=aa v;have S:=aa M;obtain ⟨op,m⟩:∃ op:Int,3+i=op:=⟨_,rfl⟩;rw [m] at r ⊢;have Q:3≤op∧op≤6:=by omega
 clear v M O P
 rcases h with ⟨rfl,rfl⟩ | ⟨rfl,rfl⟩ | ⟨rfl,rfl⟩ | ⟨rfl,rfl⟩
 all_goals
  simp only [Int.add_zero,Int.reduceAdd] at m;subst m
  go_enter Tryz.func208,Tryz.ntmps208
  go_wp2_with fail;refine (s _).mono ?_;rintro e w1 ⟨rfl,d⟩;go_wp2_with fail;refine (r _).mono ?_;rintro e w2 ⟨rfl,l⟩;obtain ⟨AN0,V,AR0,W,AW0,Y,q⟩:=S.out;have n:N≤w2.heap.size:=zV D (zV d.size l.size);have x:Hid (dj N p b w2):=⟨_,_,_,_,_,_,(q.later d).later l⟩;have y:Hid (Kept N (fun k=>k=p) w w2):=(aw d D).trans (aw l (zV D d.size))
  clear q d l;go_wp2_with fail;refine (B.out w2 n x.out).mono ?_;rintro e w3 ⟨rfl,⟨AN,cN,AR,cR,AW,X,o⟩,C⟩;have z:=aa (y.out.trans C);have HV:=aa o;have E:N≤w3.heap.size:=zV n C.size;have c2:=o.c2;have hlt:=o.lt;obtain ⟨k,I⟩:=az b1.waiting.length;rw [I] at c2;have hkm:(k:Int)≤200:=by omega
  have T:Hid (∀ w',Bl w3 w'→w'.ownsRow N 3 1 (.slice AW k X) k (aE b1.waiting)):=fun w' hb=>by have:=(o.later hb).wai;rw [I] at this;exact this
  clear o C
  go_wp2_with (at_builtin;refine wpList_append_lies _ rfl _ _ 26 rfl N 3 i0 (.int .i64 0) 1 8 Tryz.underlying26 H J K L rfl (by decide) _ _ _ rfl (T.out _ (by go_grown)) ⟨w3.heap.size,0,none⟩ 1 1 [.int .i64 _] rfl rfl bz dG (by omega) (by unfold maxLen;omega) (by omega) (by simp;omega) (w3.heap.size+1) (by simp) ?_)
  intro g cg w6 j f a u;obtain ⟨⟨y1,y2⟩,F⟩:=HV.out.push E I (by go_grown) f j (by rcases a with a | a;exact Or.inl a;exact Or.inr (by simp;omega))
  have U:=aa (z.out.trans F.2);have A:=aa F.1;clear j f a u F;go_wp2_with fail
  first | go_end0 | refine bodyPost_ret (results_none rfl _ _ _) rfl ?_
  exact ⟨rfl,A.out,U.out⟩
end Go.Proofs.YtohgnbgamfepoaaGreatDoor
