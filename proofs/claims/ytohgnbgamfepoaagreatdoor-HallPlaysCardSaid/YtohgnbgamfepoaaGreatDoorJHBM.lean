/- What newQueue of packa -/
import Derived.Test.YtohgnbgamfepoaaGreatDoorJHBI
import Derived.Test.YtohgnbgamfepoaaGreatDoorJHBJ
namespace Go.Proofs.YtohgnbgamfepoaaGreatDoor
open ChangeShapes WideShapes ChangeAt RowKit
set_option maxRecDepth 99999
set_option maxHeartbeats 0
theorem ni (q g n:Nat) (D:Nat→Dm) (X:Nat→AL) (w:World) (a:cJ w q g n D X):Calls Tryz.prog 76 #[.pointer (some ⟨q,0,none⟩)] w fun e w'=>e=.returned (.int .i64 (prodN D n:Nat))∧w'=w:=by
 obtain ⟨b,c,d⟩:=a.cells;generalize prodN D n=N at *;clear a
 go_enter Tryz.func76,Tryz.ntmps76
 go_wp2_with fail;go_ret;exact ⟨rfl,rfl⟩
theorem Bi {w w3:World} {B gM gU N:Nat} {UV:Nat→Value} {UL:Nat→List Int} (hU:UM w3 B gU N UV UL) (d:eU w3 gM N 3 fun _=>.int .i64 0) (c:Bl w w3) (b:w.heap.size≤B) (e:w.heap.size≤gM) (f:∀ j,j<N→(UV j).ownBlock≠some gM) :
  QM (w3.alloc (.cells #[.slice (some ⟨gM,0,none⟩) N N,.slice (some ⟨gU,0,none⟩) N N,.slice none 0 0] 151)) w.heap.size w3.heap.size gM gU N (fun _=>0) UV UL (.slice none 0 0) []∧Bl w (w3.alloc (.cells #[.slice (some ⟨gM,0,none⟩) N N,.slice (some ⟨gU,0,none⟩) N N,.slice none 0 0] 151)):=by
 have a:Bl w3 (w3.alloc (.cells #[.slice (some ⟨gM,0,none⟩) N N,.slice (some ⟨gU,0,none⟩) N N,.slice none 0 0] 151)):=by go_grown
 refine ⟨⟨heap_alloc_new _ _,d.same (a.block _ d.lt),hU.hU.same (a.block _ hU.hU.lt),fun j g=>an (nQ (hU.own j g) b) a,World.ownsRow_nil _ _ _ _,f,hU.dU,fun h=>(by cases h),fun _ _ _ h=>(by cases h),c.size,e,zV b hU.lU⟩,ae c a⟩
theorem Ga {w w' w4:World} {gU N:Nat} {Nn:List (List Int)} (d:D2 w4 gU N N Nn w') (g:w.heap.size≤w'.heap.size) (b:Bl w w4) :
  ∃ UV,QM ((w4.alloc (.cells (madeCells #[.int .i64 0] N) 3)).alloc (.cells #[.slice (some ⟨w4.heap.size,0,none⟩) N N,.slice (some ⟨gU,0,none⟩) N N,.slice none 0 0] 151)) w.heap.size (w4.heap.size+1) w4.heap.size gU N (fun _=>0) UV (fun j=>bE Nn j N) (.slice none 0 0) []∧Bl w ((w4.alloc (.cells (madeCells #[.int .i64 0] N) 3)).alloc (.cells #[.slice (some ⟨w4.heap.size,0,none⟩) N N,.slice (some ⟨gU,0,none⟩) N N,.slice none 0 0] 151)):=by
 obtain ⟨UV,c,i⟩:=d;have a:Bl w4 (w4.alloc (.cells (madeCells #[.int .i64 0] N) 3)):=by go_grown
 have h:=Bi (c.later a) (eU.made w4 N 3 (.int .i64 0)) (ae b a) g b.size fun j f e=>by
  have:=(bP (c.own j f) e).2.1
  omega
 rw [show (w4.alloc (.cells (madeCells #[.int .i64 0] N) 3)).heap.size=w4.heap.size+1 from by simp] at h
 exact ⟨UV,h⟩
theorem C7 {w w' w4:World} {gM gU N:Nat} {Nn:List (List Int)} (a:D2 w4 gU N N Nn w') (h:w.heap.size≤w'.heap.size) (d:Bl w w4) (b:eU w' gM N 3 fun _=>.int .i64 0) (c:w.heap.size≤gM) :
  ∃ UV,QM (w4.alloc (.cells #[.slice (some ⟨gM,0,none⟩) N N,.slice (some ⟨gU,0,none⟩) N N,.slice none 0 0] 151)) w.heap.size w4.heap.size gM gU N (fun _=>0) UV (fun j=>bE Nn j N) (.slice none 0 0) []∧Bl w (w4.alloc (.cells #[.slice (some ⟨gM,0,none⟩) N N,.slice (some ⟨gU,0,none⟩) N N,.slice none 0 0] 151)):=by
 obtain ⟨UV,a,f⟩:=a;exact ⟨UV,Bi a (b.same (f.block _ b.lt)) d h c fun j g e=>by
  have i:=(bP (a.own j g) e).1;have k:=b.lt
  omega⟩
def G3 (w:World) (q gM gU N k:Nat) (Nn:List (List Int)) (w1:World):Prop := ∃ M UV R,QM w w1.heap.size q gM gU N M UV (fun j=>bE Nn j N) R (selTo (fun j=>(Nn.getD j []).isEmpty) k)∧(∀ j,j<k→M j=((Nn.getD j []).length:Int))∧Bl w1 w
def JX (w:World) (q gM gU N k:Nat) (Nn:List (List Int)) (w1:World):Prop := ∃ M UV R,QM w w1.heap.size q gM gU N M UV (fun j=>bE Nn j N) R (selTo (fun j=>(Nn.getD j []).isEmpty) k)∧(∀ j,j<k+1→M j=((Nn.getD j []).length:Int))∧Bl w1 w
section
variable {w w2 w1:World} {q gM gU N k tl:Nat} {Nn:List (List Int)}
theorem G3.put (h:G3 w q gM gU N k Nn w1) (b:Bl w w2) (f:(Nn.getD k []).length=tl):JX (w2.setCell ⟨gM,k,none⟩ (.int .i64 (tl:Int))) q gM gU N k Nn w1:=by
 obtain ⟨M,UV,R,a,d,c⟩:=h;refine ⟨fun j=>if j=k then (tl:Int) else M j,UV,R,(a.later b).setM k (tl:Int),fun j g=>?_,(ae c b).setCell a.lM _⟩
 by_cases e:j=k
 ·show (if j=k then (tl:Int) else M j)=_
  rw [if_pos e,e,f]
 show (if j=k then (tl:Int) else M j)=_
 rw [if_neg e];exact d j (by omega)
theorem JX.done (h:JX w q gM gU N k Nn w1) (b:(Nn.getD k []).length≠0):G3 w q gM gU N (k+1) Nn w1:=by
 obtain ⟨M,UV,R,f,e,d⟩:=h;refine ⟨M,UV,R,?_,e,d⟩;have c:selTo (fun j=>(Nn.getD j []).isEmpty) (k+1)=selTo (fun j=>(Nn.getD j []).isEmpty) k:=by
  rw [selTo];have:(Nn.getD k []).isEmpty=false:=by
   generalize Nn.getD k []=T at b;cases T with
   | nil=>exact absurd rfl b
   | cons a r=>rfl
  rw [this]
  simp
 rw [c];exact f
theorem JX.free (h:JX w q gM gU N k Nn w1) (F:(Nn.getD k []).length=0) :
  ∃ AO ln i Ly,w.cell? ⟨q,2,none⟩=some (.slice AO ln i)∧w.frozen? ⟨q,2,none⟩=false∧ln≤k∧w.ownsRow w1.heap.size 3 1 (.slice AO ln i) ln (aE Ly)∧(∀ (w5 w6:World),Bl w w5→w5.grownBy w6 (Value.slice AO ln i).ownBlock→w6.cell? ⟨q,2,none⟩=some (.slice AO ln i)∧w6.frozen? ⟨q,2,none⟩=false∧q<w6.heap.size) ∧
  ∀ (w5 w6:World) (v:Value),Bl w w5→w6.ownsRow w1.heap.size 3 1 v (ln+1) (aE Ly ++ [.int .i64 (k:Int)])→w5.grownBy w6 (Value.slice AO ln i).ownBlock→(v.ownBlock=(Value.slice AO ln i).ownBlock∨v.ownBlock=some w5.heap.size)→G3 (w6.setCell ⟨q,2,none⟩ v) q gM gU N (k+1) Nn w1:=by
 obtain ⟨M,UV,R,f,D,l⟩:=h;have n:=f.ready;obtain ⟨AO,i,p⟩:∃ AO i,R=.slice AO (selTo (fun j=>(Nn.getD j []).isEmpty) k).length i:=by
  rcases n.2 with ⟨s,B⟩ | ⟨g,cap,r,s,-⟩
  ·exact ⟨none,0,by rw [s,B]⟩
  exact ⟨_,_,s⟩
 have y:∀ b,R.ownBlock=some b→b≠q∧b≠gU:=fun b o=>by
  obtain ⟨-,-,r,G⟩:=bP n o;exact f.off G
 have u:∀ (w5 w6:World),Bl w w5→w5.grownBy w6 R.ownBlock→w6.heap[q]?=w.heap[q]?:=fun w5 w6 c d=>(d.block q (zW f.ql c.size) (fun e=>(y q e.symm).1 rfl)).trans (c.block q f.ql)
 refine ⟨AO,_,i,_,by rw [←p];exact f.cells.2.2.1,f.cells.2.2.2,IE _ _,by rw [←p];exact n,fun w5 w6 c d=>?_,fun w5 w6 v c C d m=>?_⟩
 ·rw [←p] at d ⊢
  have z:=u w5 w6 c d;refine ⟨(World.cell?_of_block (a:=⟨q,2,none⟩) z).trans f.cells.2.2.1,(World.frozen?_of_block (a:=⟨q,2,none⟩) z).trans f.cells.2.2.2,?_⟩;have:=f.ql;have:=c.size;have:=d.size
  omega
 rw [←p] at d m;have x:(selTo (fun j=>(Nn.getD j []).isEmpty) k ++ [(k:Int)]).length=(selTo (fun j=>(Nn.getD j []).isEmpty) k).length+1:=by rw [List.length_append];rfl
 have E:=f.pushR (L:=selTo (fun j=>(Nn.getD j []).isEmpty) k ++ [(k:Int)]) (v:=v) (H:=w5.heap.size) c d (by rw [x,mapI_snoc];exact C) m c.size
 have t:Bl w1 w6:=⟨d.os.trans (ae l c).os,d.tape.trans (ae l c).tape,d.output.trans (ae l c).output,zV (ae l c).size d.size,fun b o=>(d.block b (zW o (ae l c).size) (fun e=>by have:=(bP n e.symm).1;omega)).trans ((ae l c).block b o)⟩
 refine ⟨M,UV,v,?_,D,t.setCell f.lq _⟩;have A:selTo (fun j=>(Nn.getD j []).isEmpty) (k+1)=selTo (fun j=>(Nn.getD j []).isEmpty) k ++ [(k:Int)]:=by
  rw [selTo];rw [List.eq_nil_of_length_eq_zero F]
  simp
 rw [A];exact E
end
theorem FB (l g n:Nat) (D:Nat→Dm) (X:Nat→AL) (w:World) (K:dI D n) (B:(am D n).2.2=0) (Z:cJ w l g n D X) :
  Calls Tryz.prog 75 #[.pointer (some ⟨l,0,none⟩)] w fun e w' => ∃ q gM gU,e=.returned (.tuple #[.pointer (some ⟨q,0,none⟩),.nilIface])∧G3 w' q gM gU (prodN D n) (prodN D n) (rowsL D n) w:=by
 obtain ⟨i0,hi0,hz0,hz1,hz2⟩:=info_parts Tryz.infoInt;obtain ⟨hn1,hn4,hp3,hd⟩:=au B;have p:Hid (∀ w',Bl w w'→Calls Tryz.prog 76 #[.pointer (some ⟨l,0,none⟩)] w' fun e w''=>e=.returned (.int .i64 (prodN D n:Nat))∧w''=w'):=fun w' t=>ni l g n D X w' (Z.later t)
 have i:Hid (∀ w',Bl w w'→Calls Tryz.prog 98 #[.pointer (some ⟨l,0,none⟩)] w' fun e w''=>(∃ gU,e=.returned (.slice (some ⟨gU,0,none⟩) (prodN D n) (prodN D n))∧D2 w'' gU (prodN D n) (prodN D n) (rowsL D n) w')∧Bl w' w''):=fun w' t=>by
  refine (rT l g n D X w' K B (Z.later t)).mono ?_;rintro e w'' ⟨gU,rfl,hU⟩;exact ⟨⟨gU,rfl,hU⟩,hU.choose_spec.2⟩
 have o:Hid (∀ k w',k<prodN D n→Bl w w'→Calls Tryz.prog 115 #[.pointer (some ⟨l,0,none⟩),.int .i64 k] w' fun e w''=>(∃ A' s,e=.returned (.tuple #[.slice A' ((rowsL D n).getD k []).length s,.nilIface]))∧Bl w' w''):=fun k w' S t=>by
  refine (yv l g n D X k w' K B S (Z.later t)).mono ?_;rintro e w'' ⟨⟨A',s,T,rfl,hI,hT,-,hA'⟩,hb⟩;have hTe:T=(rowsL D n).getD k []:=by rw [lT K B hT,lJ S]
  rw [←hTe];exact ⟨⟨A',s,rfl⟩,hb⟩
 have r:Hid (∀ k,k<prodN D n→((rowsL D n).getD k []).length≤12):=fun k S=>(fE K B S).2.1
 obtain ⟨Nn,J⟩:=az (rowsL D n);rw [J] at o r i ⊢;obtain ⟨N,hN⟩:=az (prodN D n);rw [hN] at p o r i hp3 ⊢;have hNI:(N:Int)≤3000:=by omega
 have U:=run_make_row' (P:=Tryz.prog) 26 3 (.int .i64 0) 8 Tryz.underlying26 Tryz.infoInt rfl .i64 .i64 N (by omega) (by omega)
 clear Z B K hd J hN
 go_enter Tryz.func75,Tryz.ntmps75
 go_upto_region 1 with fail
 go_cut [4] from 8 (fun s4 wx => ∃ q gM gU UV,s4=.pointer (some ⟨q,0,none⟩)∧QM wx w.heap.size q gM gU N (fun _=>0) UV (fun j=>bE Nn j N) (.slice none 0 0) []∧Bl w wx)
 case first =>
  go_region_law ((first
   | (go_simp;refine (p.out _ (by go_grown)).mono ?_;rintro e w3 ⟨rfl,rfl⟩)
   | (go_simp;refine (i.out _ (by go_grown)).mono ?_;rintro e w4 ⟨⟨gU,rfl,O⟩,x⟩;have I:=ae (W0:=w) (by go_grown) x;have hs4:=x.size;clear x)))
  all_goals go_wp2_with fail
  all_goals go_meet
  all_goals first
   | (obtain ⟨UV,h1,h2⟩:=Ga (w:=w) O (by first | exact zT | simp) I;exact ⟨_,_,_,UV,rfl,h1,h2⟩)
   | (obtain ⟨UV,h1,h2⟩:=C7 (w:=w) O (by first | exact zT | simp) I (eU.made w N 3 (.int .i64 0)) (zT);exact ⟨_,_,_,UV,rfl,h1,h2⟩)
 case rest =>
 obtain ⟨q,gM,gU,UV,rfl,C,u⟩:=hcut;obtain ⟨w1,rfl⟩:∃ w1:World,w1=wc:=⟨_,rfl⟩;have K0:Hid (G3 w1 q gM gU N 0 Nn w):=by
  exact ⟨fun _=>0,UV,.slice none 0 0,C,fun j hj=>absurd hj (Nat.not_lt_zero _),u⟩
 have V:=p.out w1 u;clear U C u i;go_wp2_with fail;refine V.mono ?_;rintro e w2 ⟨rfl,rfl⟩;clear V;go_wp2_with fail
 go_loopg [17] N (fun gg s17 wr => ∃ (k:Nat),k≤N∧gg=N-k∧s17=.int .i64 k∧Hid (G3 wr q gM gU N k Nn w))
 case atStart=>exact ⟨0,zU,rfl,rfl,K0⟩
 case round =>
  obtain ⟨k,S,rfl,rfl,Y⟩:=hrel
  by_cases y:k<N
  ·have hki:(k:Int)<(N:Int):=by omega
   have q0:Hid (Bl w wr):=by obtain ⟨-,-,-,-,-,h⟩:=Y.out;exact h
   have z:=o.out k wr y q0.out;have h12:=r.out k y;obtain ⟨tl,A⟩:=az ((Nn.getD k []).length);have f:=aa A;rw [A] at z h12;have htI:(tl:Int)≤12:=by omega
   clear A;go_wp2_with fail;refine z.mono ?_;rintro e w3 ⟨⟨A2,c2,rfl⟩,v⟩;have c:=aa (Y.out.put v f.out);obtain ⟨m0,m1,mf,mq,mg⟩:w3.cell? ⟨q,0,none⟩=some (.slice (some ⟨gM,0,none⟩) N N)∧w3.cell? ⟨gM,k,none⟩≠none∧w3.frozen? ⟨gM,k,none⟩=false∧q<w3.heap.size∧gM<w3.heap.size:=by
    obtain ⟨M,UV,R,C,-,-⟩:=Y.out;have d:=C.later v;exact ⟨d.cells.1,by rw [d.hM.cell y];simp,d.hM.frozen k,d.ql,d.hM.lt⟩
   obtain ⟨mv,m1'⟩:=Option.ne_none_iff_exists'.1 m1;obtain ⟨wr2,W⟩:=az (w3.setCell ⟨gM,k,none⟩ (.int .i64 (tl:Int)));rw [W] at c;clear z v m1
   by_cases G:tl=0
   ·obtain ⟨AO,ln,cO,Ly,cR,hfR,hln,hO,L,H⟩:=c.out.free (by rw [f.out];exact G)
    have HO:=aa hO;have F:=aa L;have E:=aa H;obtain ⟨hql,hBs⟩:q<wr2.heap.size∧w.heap.size≤wr2.heap.size:=by
     obtain ⟨M,UV,R,C,-,t⟩:=c.out;exact ⟨C.ql,t.size⟩
    have hlnI:ln≤3000:=by omega
    have K2:((tl:Int) == 0)=true:=by simp [G]
    clear hO L H c f G
    go_wp2_with (at_builtin;refine wpList_append_own_at _ rfl _ _ 26 rfl w.heap.size 3 i0 (.int .i64 0) 1 8 Tryz.underlying26 hi0 hz0 hz1 hz2 rfl (by decide) _ _ _ rfl (HO.out.alloc _) ⟨wr2.heap.size,0,none⟩ 1 1 [.int .i64 k] rfl rfl bz dG (by unfold maxLen;omega) (by omega) (by simp;omega) ?_)
    intro v' w6 b a _ Q;obtain ⟨y1,y2,y3⟩:=F.out _ _ (by go_grown) a
    obtain ⟨A',s,rfl⟩:∃ A' s,v'=.slice A' (ln+1) s:=by
     rcases b.2 with ⟨-,h⟩ | ⟨g',s,cur,h,-⟩
     ·omega
     exact ⟨_,_,h⟩
    have m:=aa (E.out _ _ _ (by go_grown) b a (Q.imp id fun h=>by rw [h];simp))
    clear b a Q;go_wp2_with fail
    go_roundg (N-(k+1))
    case measure=>omega
    case rel=>exact ⟨k+1,by omega,rfl,by go_num,m⟩
   have K2:((tl:Int) == 0)=false:=by simpa using G
   have m:Hid (G3 wr2 q gM gU N (k+1) Nn w):=c.out.done (by rw [f.out];exact G)
   clear c;go_wp2_with fail
   go_roundg (N-(k+1))
   case measure=>omega
   case rel=>exact ⟨k+1,by omega,rfl,by go_num,m⟩
  have hke:k=N:=by omega
  subst hke;go_wp2_with fail;go_returns;exact ⟨q,gM,gU,rfl,Y.out⟩
structure QS (w:World) (B q gM gU N:Nat) (M:Nat→Int) (UV:Nat→Value) (UL:Nat→List Int) (gR:Nat) (AR:Option Addr) (cR:Nat) (RL:List Int):Prop where
 hq:w.heap[q]?=some (.cells #[.slice (some ⟨gM,0,none⟩) N N,.slice (some ⟨gU,0,none⟩) N N,.slice AR RL.length cR] 151 (0,0))
 hM:eU w gM N 3 fun j=>.int .i64 (M j)
 hU:eU w gU N 26 UV
 own:∀ j,j<N→w.ownsRow B 3 1 (UV j) (UL j).length (aE (UL j))
 ready:ia w gR AR cR RL
 dM:∀ j,j<N→(UV j).ownBlock≠some gM
 dR:gR≠gM
 dRU:∀ j,j<N→(UV j).ownBlock≠some gR
 lq:B≤q
 lM:B≤gM
 lU:B≤gU
 lR:B≤gR
theorem QS.of {w:World} {B q gM gU N:Nat} {M:Nat→Int} {UV:Nat→Value} {UL:Nat→List Int} {R:Value} {RL:List Int} (h:QM w B q gM gU N M UV UL R RL) (hl:0<RL.length):∃ gR cR,QS w B q gM gU N M UV UL gR (some ⟨gR,0,none⟩) cR RL:=by
 obtain ⟨gR,cR,hR,hB,hV⟩:=ia.own h.ready hl
 refine ⟨gR,cR,by rw [←hR];exact h.hq,h.hM,h.hU,h.own,hV,h.dM,fun e=>h.dR (by rw [hR,←e];rfl),fun j hj e=>h.dRU j hj gR (by rw [hR];rfl) e,h.lq,h.lM,h.lU,hB⟩
section
variable {w w':World} {B q gM gU N:Nat} {M:Nat→Int} {UV:Nat→Value} {UL:Nat→List Int} {gR:Nat} {AR:Option Addr} {cR:Nat} {RL:List Int}
theorem QS.ql (h:QS w B q gM gU N M UV UL gR AR cR RL):q<w.heap.size:=(zY h.hq).1
theorem QS.later (h:QS w B q gM gU N M UV UL gR AR cR RL) (a:Bl w w'):QS w' B q gM gU N M UV UL gR AR cR RL :=
 ⟨(a.block q h.ql).trans h.hq,h.hM.same (a.block _ h.hM.lt),h.hU.same (a.block _ h.hU.lt),fun j b=>an (h.own j b) a,h.ready.later a,h.dM,h.dR,h.dRU,h.lq,h.lM,h.lU,h.lR⟩
theorem QS.keep (h:QS w B q gM gU N M UV UL gR AR cR RL) {r:Option Nat} (a:w.grownBy w' r) (d:r≠some q) (f:r≠some gM) (g:r≠some gU) (i:r≠some gR) (k:∀ j,j<N→∀ b,(UV j).ownBlock=some b→r≠some b):QS w' B q gM gU N M UV UL gR AR cR RL :=
 ⟨(a.block q h.ql (fun e=>d e.symm)).trans h.hq,h.hM.same (a.block _ h.hM.lt (fun e=>f e.symm)),h.hU.same (a.block _ h.hU.lt (fun e=>g e.symm)),fun j c=>iI (h.own j c) a (k j c),h.ready.same (a.block _ h.ready.lt (fun e=>i e.symm)),h.dM,h.dR,h.dRU,h.lq,h.lM,h.lU,h.lR⟩
theorem QS.cells (h:QS w B q gM gU N M UV UL gR AR cR RL):w.cell? ⟨q,0,none⟩=some (.slice (some ⟨gM,0,none⟩) N N)∧w.cell? ⟨q,1,none⟩=some (.slice (some ⟨gU,0,none⟩) N N)∧w.cell? ⟨q,2,none⟩=some (.slice AR RL.length cR)∧w.frozen? ⟨q,2,none⟩=false :=
 ⟨by simp [World.cell?,h.hq],by simp [World.cell?,h.hq],by simp [World.cell?,h.hq],by simp [World.frozen?,h.hq]⟩
theorem QS.off (h:QS w B q gM gU N M UV UL gR AR cR RL) {b:Nat} {a:Array Value} (c:w.heap[b]?=some (.cells a 3 (0,0))):b≠q∧b≠gU:=by
 refine ⟨fun e=>?_,h.hU.off c g7⟩
 rw [e,h.hq] at c
 simp at c
theorem QS.ne (h:QS w B q gM gU N M UV UL gR AR cR RL):q≠gM∧q≠gU∧gM≠gU∧gR≠q∧gR≠gU:=by
 obtain ⟨-,-,o,-,⟨b,c,-⟩,-⟩:=h.ready;have a:=h.off c;refine ⟨fun e=>?_,fun e=>?_,fun e=>?_,a.1,a.2⟩
 ·have a:=h.hq;rw [e,h.hM] at a;simp at a
 ·have a:=h.hq;rw [e,h.hU] at a;simp at a
 have a:=h.hM;unfold eU at a;rw [e,h.hU] at a;simp at a
theorem QS.ownOff (h:QS w B q gM gU N M UV UL gR AR cR RL) {j b:Nat} (e:j<N) (c:(UV j).ownBlock=some b):b≠q∧b≠gU:=by
 obtain ⟨-,-,a,d⟩:=bP (h.own j e) c;exact h.off d
theorem QS.users (h:QS w B q gM gU N M UV UL gR AR cR RL) {j:Nat} (a:j<N) {A:Option Addr} {c:Nat} (b:UV j=.slice A (UL j).length c):w.cell? ⟨gU,j,none⟩=some (.slice A (UL j).length c)∧aR w A c (UL j):=by
 refine ⟨by rw [←b];exact h.hU.cell a,?_⟩
 obtain ⟨A',f,e,d⟩:=bQ (h.own j a);rw [b] at e;cases e;exact d
theorem QS.qin (h:QS w B q gM gU N M UV UL gR AR cR RL) {w5 w6:World} (b:Bl w w5) (c:w5.grownBy w6 (some gR)):w6.cell? ⟨q,2,none⟩=some (.slice AR RL.length cR)∧w6.frozen? ⟨q,2,none⟩=false∧q<w6.heap.size:=by
 obtain ⟨n1,n2,n3,n4,n5⟩:=h.ne;have e:w6.heap[q]?=w.heap[q]?:=(c.block q (zW h.ql b.size) (fun e=>n4 (by simpa using e.symm))).trans (b.block q h.ql)
 refine ⟨(World.cell?_of_block (a:=⟨q,2,none⟩) e).trans h.cells.2.2.1,(World.frozen?_of_block (a:=⟨q,2,none⟩) e).trans h.cells.2.2.2,?_⟩;have:=h.ql;have:=b.size;have:=c.size
 omega
theorem QS.setM (h:QS w B q gM gU N M UV UL gR AR cR RL) (m:Nat) (x:Int):QS (w.setCell ⟨gM,m,none⟩ (.int .i64 x)) B q gM gU N (fun j=>if j=m then x else M j) UV UL gR AR cR RL:=by
 obtain ⟨n1,n2,n3,n4,n5⟩:=h.ne;refine ⟨by rw [ar _ _ _ _ _ n1];exact h.hq,?_,h.hU.same (ar _ _ _ _ _ n3.symm),fun j a=>fj (h.own j a) (h.dM j a),h.ready.same (ar _ _ _ _ _ h.dR),h.dM,h.dR,h.dRU,h.lq,h.lM,h.lU,h.lR⟩
 refine h.hM.set (f':=fun j=>.int .i64 (if j=m then x else M j)) fun j _=>?_
 by_cases e:j=m
 ·simp only [if_pos e]
 simp only [if_neg e]
theorem QS.setR (h:QS w B q gM gU N M UV UL gR AR cR RL) {w5 w6:World} {g' f:Nat} {A':Option Addr} {L:List Int} (i:Bl w w5) (m:w5.grownBy w6 (some gR)) (p:ia w6 g' A' f L) (c:g'=gR∨w.heap.size≤g') (r:B≤w.heap.size):QS (w6.setCell ⟨q,2,none⟩ (.slice A' L.length f)) B q gM gU N M UV UL g' A' f L:=by
 obtain ⟨n1,n2,n3,n4,n5⟩:=h.ne;have a:∀ b,b<w.heap.size→b≠gR→w6.heap[b]?=w.heap[b]?:=fun b g l=>(m.block b (zW g i.size) (fun e=>l (by simpa using e))).trans (i.block b g)
 have o:g'≠q:=by
  rcases c with rfl | c
  ·exact n4
  have:=h.ql;omega
 refine ⟨?_,(h.hM.same (a _ h.hM.lt h.dR.symm)).same (ar _ _ _ _ _ n1.symm),(h.hU.same (a _ h.hU.lt n5.symm)).same (ar _ _ _ _ _ n2.symm),fun j d=>?_,p.same (ar _ _ _ _ _ o),h.dM,?_,fun j d=>?_,h.lq,h.lM,h.lU,?_⟩
 ·have:=cI (k:=2) (v:=.slice A' L.length f) ((a q h.ql n4.symm).trans h.hq)
  simpa using this
 ·refine fj (iI (an (h.own j d) i) m fun b g e=>h.dRU j d (by rw [e];exact g)) fun n=>(h.ownOff d n).1 rfl
 ·rcases c with rfl | c
  ·exact h.dR
  have:=h.hM.lt;omega
 ·rcases c with rfl | c
  ·exact h.dRU j d
  intro e;have:=(bP (h.own j d) e).2.1
  omega
 rcases c with rfl | c
 ·exact h.lR
 omega
theorem ia.tail {g o:Nat} {m:Int} {R:List Int} (h:ia w g (some ⟨g,o,none⟩) cR (m :: R)):ia w g (if cR=1 then some ⟨g,o,none⟩ else some ⟨g,o+1,none⟩) (cR-1) R:=by
 obtain ⟨f,l,o',i,⟨a,c,n⟩,b⟩:=h;cases i;simp only [List.length_cons] at f b
 by_cases e:cR=1
 ·rw [if_pos e]
  have k:R=[]:=List.eq_nil_of_length_eq_zero (by omega)
  subst k;exact ⟨zU,by omega,o,rfl,⟨a,c,by omega⟩,fun j d=>by simp at d⟩
 rw [if_neg e];refine ⟨by omega,by omega,o+1,rfl,⟨a,c,by omega⟩,fun j d=>?_⟩
 have:=b (j+1) (by omega)
 rw [show o+1+j=o+(j+1) by omega]
 rw [List.getD_cons_succ] at this;exact this
end
theorem sY {Nn:List (List Int)} {R:List Int} (h:R.Pairwise (· < ·)) (a:∀ x∈R,∃ j:Nat,x=j∧j<Nn.length):R.length≤Nn.length:=few _ _ (h.imp fun h=>by omega) fun x b=>by
 obtain ⟨j,rfl,c⟩:=a x b
 omega
def tB (q gM gR:Nat) (w w':World):Prop:=Kept w.heap.size (fun k=>k=q∨k=gM∨k=gR) w w'
theorem tB.refl (q gM gR:Nat) (w:World):tB q gM gR w w:=Kept.refl _ _ _
theorem B9 {q gM gR:Nat} {w w1 w2:World} (h:tB q gM gR w w1) (k:Bl w1 w2):tB q gM gR w w2:=⟨k.os.trans h.os,k.tape.trans h.tape,k.output.trans h.output,zV h.size k.size,fun i a b=>(k.block i (zW a h.size)).trans (h.block i a b)⟩
theorem su {q gM gR b j:Nat} {w w1:World} {v:Value} (h:tB q gM gR w w1) (c:b=q∨b=gM∨b=gR∨w.heap.size≤b):tB q gM gR w (w1.setCell ⟨b,j,none⟩ v):=⟨h.os,h.tape,h.output,by simp only [World.size_setCell];exact h.size,fun i d a=>by
 rw [ar _ _ _ _ _ (fun e=>by
  rcases c with h1 | h1 | h1 | h1
  ·exact a (Or.inl (e.trans h1))
  ·exact a (Or.inr (Or.inl (e.trans h1)))
  ·exact a (Or.inr (Or.inr (e.trans h1)))
  omega)]
 exact h.block i d a⟩
theorem Ca {q gM gR b:Nat} {w w1 w2:World} (h:tB q gM gR w w1) (a:w1.grownBy w2 (some b)) (g:b=gR∨w.heap.size≤b):tB q gM gR w w2:=⟨a.os.trans h.os,a.tape.trans h.tape,a.output.trans h.output,zV h.size a.size,fun i c d=>by
 rw [a.block i (zW c h.size) (fun e=>by
  have f:i=b:=by simpa using e
  rcases g with h1 | h1
  ·exact d (Or.inr (Or.inr (f.trans h1)))
  omega)]
 exact h.block i c d⟩
theorem C8 (B q gM gU N k:Nat) (Nn:List (List Int)) (M:Nat→Int) (UV:Nat→Value) (gR:Nat) (AR:Option Addr) (cR:Nat) (RL:List Int) (w:World) (hN3:N≤3000) (z:Nn.length=N) (hN:nA Nn) (hc:∀ i:Nat,i<Nn.length→cycB Nn i=false) (hr:∀ j,j<Nn.length→(Nn.getD j []).Pairwise (· < ·)) (hl:∀ j,j<Nn.length→(Nn.getD j []).length≤12) (hk:k<N) (hB:B≤w.heap.size)
  (Q:QS w B q gM gU N M UV (fun j=>bE Nn j N) gR AR cR RL) (hM:∀ j,j<N→M j=(fp Nn (aB Nn k) j:Int)) (S:sd Nn (aB Nn k) RL) :
  Calls Tryz.prog 77 #[.pointer (some ⟨q,0,none⟩)] w fun e w' => ∃ m:Nat,e=.returned (.int .i64 m)∧m<N∧aB Nn (k+1)=aB Nn k ++ [(m:Int)]∧∃ M' gR' AR' a RL',QS w' B q gM gU N M' UV (fun j=>bE Nn j N) gR' AR' a RL'∧(∀ j,j<N→M' j=(fp Nn (aB Nn (k+1)) j:Int))∧sd Nn (aB Nn (k+1)) RL'∧(gR'=gR∨w.heap.size≤gR')∧tB q gM gR w w':=by
 obtain ⟨m,R0,rfl,hmN,hmo,hon,hRI⟩:=pN hN hc (k:=k) (by omega) S
 have E:=sY (Nn:=Nn) S.1 fun x hx=>by obtain ⟨j,h1,H,-⟩:=(S.2 x).1 hx;exact ⟨j,h1,H⟩
 rw [z] at E hmN;simp only [List.length_cons] at E;obtain ⟨p0,p1,p2,pf⟩:=Q.cells;obtain ⟨-,-,o,rfl,⟨cur,hcur,hcs⟩,C⟩:=id Q.ready;have c0:=C 0 (by simp)
 simp only [List.getD_cons_zero,Nat.add_zero] at c0;have hcR:=Q.ready.1;have hcR2:=Q.ready.2.1;simp only [List.length_cons] at hcR p2;have hql:=Q.ql;have hgl:=Q.ready.lt;have hV:=Q.ready.tail;have v:Hid (QS (w.setCell ⟨q,2,none⟩ (.slice (if cR=1 then some ⟨gR,o,none⟩ else some ⟨gR,o+1,none⟩) R0.length (cR-1))) B q gM gU N M UV (fun j=>bE Nn j N) gR (if cR=1 then some ⟨gR,o,none⟩ else some ⟨gR,o+1,none⟩) (cR-1) R0):=Q.setR (zS) (cV _ _) hV (Or.inl rfl) hB
 have HM:Hid (∀ j,j<N→M j=(ie Nn (aB Nn k) m 0 j:Int)):=fun j hj=>by
  rw [hM j hj];unfold ie
  simp
 have HRI:=aa hRI;have HW:=aa hB;have s:Hid (tB q gM gR w (w.setCell ⟨q,2,none⟩ (.slice (if cR=1 then some ⟨gR,o,none⟩ else some ⟨gR,o+1,none⟩) R0.length (cR-1)))):=su (tB.refl _ _ _ _) (Or.inl rfl)
 obtain ⟨rl,hrl⟩:=az R0.length;have HRl:=aa hrl;rw [hrl] at E p2 hcR v s;have hrI:(rl:Int)+1≤3000:=by omega
 have hcRI:(rl:Int)+1≤(cR:Int):=by omega
 have hcR1:1≤cR:=by omega
 clear hV C hcur hcs Q hM S hRI hrl
 go_enter Tryz.func77,Tryz.ntmps77
 go_upto_region 2 with fail
 go_cut [3] from 8 (fun s3 wx=>s3=.int .i64 m∧∃ A1 c1,QS wx B q gM gU N M UV (fun j=>bE Nn j N) gR A1 c1 R0∧tB q gM gR w wx)
 case first =>
  by_cases hc1:cR=1
  ·rw [if_pos hc1] at v s
   subst hc1;have hr0:rl=0:=by omega
   subst hr0;go_wp2_with fail;go_meet;exact ⟨rfl,_,_,v.out,s.out⟩
  rw [if_neg hc1] at v s;go_wp2_with fail;go_meet;exact ⟨rfl,_,_,v.out,s.out⟩
 case rest =>
 obtain ⟨rfl,A1,c1,f,hF1⟩:=hcut;obtain ⟨w1,rfl⟩:∃ w1:World,w1=wc:=⟨_,rfl⟩;obtain ⟨t,ht⟩:=az ((bE Nn m N).length);have HT:=aa ht;have htN:t≤N:=by rw [←ht];exact tp _ _ _
 obtain ⟨Au,cu,hUV⟩:∃ A c,UV m=.slice A (bE Nn m N).length c:=by
  obtain ⟨A',c',e,-⟩:=bQ (f.own m hmN);exact ⟨A',c',e⟩
 have HUs:Hid (∀ w' M' gR' AR' a RL',QS w' B q gM gU N M' UV (fun j=>bE Nn j N) gR' AR' a RL'→w'.cell? ⟨gU,m,none⟩=some (.slice Au t cu)∧aR w' Au cu (bE Nn m N)):=fun w' M' gR' AR' a RL' h=>by
  have H:=h.users hmN hUV;rw [ht] at H;exact H
 have HStp:Hid (∀ i,i<t→∃ u:Nat,(bE Nn m N).getD i 0=(u:Int)∧u<N∧ie Nn (aB Nn k) m i u=fp Nn (aB Nn k) u∧1≤fp Nn (aB Nn k) u∧fp Nn (aB Nn k) u≤12∧ie Nn (aB Nn k) m (i+1) u+1=fp Nn (aB Nn k) u∧(∀ j,j≠u→ie Nn (aB Nn k) m (i+1) j=ie Nn (aB Nn k) m i j)∧∀ R,kT Nn (aB Nn k) m i R→(u:Int)∉R∧(fp Nn (aB Nn k) u=1→kT Nn (aB Nn k) m (i+1) (sw R u))∧(fp Nn (aB Nn k) u≠1→kT Nn (aB Nn k) m (i+1) R)):=fun i hi=>by
  obtain ⟨u,e1,e2,e3,e4,e5,e6,e7⟩:=GN hr hmo (i:=i) (by rw [z,ht];exact hi)
  rw [z] at e1 e2;exact ⟨u,e1,e2,e3,e4,zV (Jq _ _ _) (hl u (by rw [z];exact e2)),e5,e6,e7⟩
 have HRn:Hid (∀ i R,kT Nn (aB Nn k) m i R→R.length≤3000∧R.Pairwise (· < ·)):=fun i R h=>by
  have H:=sY (Nn:=Nn) h.1 fun x hx=>by obtain ⟨j,h1,H,-⟩:=(h.2 x).1 hx;exact ⟨j,h1,H⟩
  exact ⟨by omega,h.1⟩
 have V:Hid ((∀ j,j<N→ie Nn (aB Nn k) m t j=fp Nn (aB Nn (k+1)) j)∧∀ R,kT Nn (aB Nn k) m t R→sd Nn (aB Nn (k+1)) R):=by
  obtain ⟨h1,H⟩:=IT hr (k:=k) hmo;rw [z,ht] at h1 H;rw [hon];exact ⟨h1,H⟩
 have HOn:=aa hon;obtain ⟨-,k1,-,-⟩:=f.cells;have hq1:=f.ql;have hg1:=f.hU.lt;obtain ⟨kU,-⟩:=HUs.out w1 _ _ _ _ _ f;have HS0:Hid (∃ M' gR' AR' a RL',QS w1 B q gM gU N M' UV (fun j=>bE Nn j N) gR' AR' a RL'∧(∀ j,j<N→M' j=(ie Nn (aB Nn k) m 0 j:Int))∧kT Nn (aB Nn k) m 0 RL'∧(gR'=gR∨w.heap.size≤gR')∧tB q gM gR w w1):=⟨M,gR,A1,c1,R0,f,HM.out,HRI.out,Or.inl rfl,hF1⟩
 have hmI:(m:Int)<(N:Int):=by omega
 have hNI:(N:Int)≤3000:=by omega
 have htI:(t:Int)≤3000:=by omega
 clear f hF1 ht hUV hr hl hN hc hmo hon p0 p1 p2 pf c0;go_wp2_with fail;clear kU k1
 go_loopg [30] t (fun gg s30 wr => ∃ (i:Nat),i≤t∧gg=t-i∧s30=.int .i64 i∧Hid (∃ M' gR' AR' a RL',QS wr B q gM gU N M' UV (fun j=>bE Nn j N) gR' AR' a RL'∧(∀ j,j<N→M' j=(ie Nn (aB Nn k) m i j:Int))∧kT Nn (aB Nn k) m i RL'∧(gR'=gR∨w.heap.size≤gR')∧tB q gM gR w wr))
 case atStart=>exact ⟨0,zU,rfl,rfl,HS0⟩
 case round =>
  obtain ⟨i,hi,rfl,rfl,HSt⟩:=hrel
  by_cases hlt:i<t
  ·have hii:(i:Int)<(t:Int):=by omega
   obtain ⟨M',gR',AR',a,RL',d,p,r,D,n⟩:=HSt.out;obtain ⟨u,e1,e2,e3,e4,e12,e5,e6,e7⟩:=HStp.out i hlt;obtain ⟨hnR,hr1,hr2⟩:=e7 RL' r;obtain ⟨U,hri⟩:=HRn.out i RL' r;obtain ⟨-,hIu⟩:=HUs.out wr _ _ _ _ _ d;obtain ⟨hcS,-,hS0 | ⟨bs,cs,fr,rfl,hbS,hcl⟩⟩:=hIu
   ·have:=HT.out;rw [hS0] at this;simp at this;omega
   have cx:=hcl i (by rw [HT.out];exact hlt)
   have hbs:bs<wr.heap.size:=(zY hbS).1;rw [HT.out] at hcS;rw [e1] at cx;have hcSI:(t:Int)≤(cu:Int):=by omega
   have huI:(u:Int)<(N:Int):=by omega
   obtain ⟨q0,-,q2,qf⟩:=d.cells;have hqr:=d.ql;have cm:wr.cell? ⟨gM,u,none⟩=some (.int .i64 (M' u)):=d.hM.cell e2;have fm:=d.hM.frozen u;have hgm:=d.hM.lt;rw [p u e2,e3] at cm;have hlenW:w.heap.size≤wr.heap.size:=n.size;obtain ⟨mI,F⟩:∃ mI:Int,((fp Nn (aB Nn k) u:Nat):Int)=mI:=⟨_,rfl⟩;rw [F] at cm;have hm1:1≤mI:=by omega
   have hm12:mI≤12:=by omega
   obtain ⟨wA,G⟩:=az (wr.setCell ⟨gM,u,none⟩ (.int .i64 (mI-1)));have b:QS wA B q gM gU N (fun j=>if j=u then mI-1 else M' j) UV (fun j=>bE Nn j N) gR' AR' a RL':=by rw [←G];exact d.setM u (mI-1)
   have P:∀ j,j<N→(fun j=>if j=u then mI-1 else M' j) j=(ie Nn (aB Nn k) m (i+1) j:Int):=fun j hj=>by
    by_cases e:j=u
    ·show (if j=u then mI-1 else M' j)=_
     rw [if_pos e,e]
     omega
    show (if j=u then mI-1 else M' j)=_
    rw [if_neg e,p j hj,e6 j e]
   have L:tB q gM gR w wA:=by rw [←G];exact su n (Or.inr (Or.inl rfl))
   obtain ⟨a0,-,a2,af⟩:=b.cells;have hqA:=b.ql;have cmA:wA.cell? ⟨gM,u,none⟩=some (.int .i64 (mI-1)):=by
    have h:=b.hM.cell e2
    simpa using h
   have hgA:=b.hM.lt;have hgRl:=b.ready.lt;have J:=aa b;have HMA:=aa P;have HFA:=aa L;have hszA:wA.heap.size=wr.heap.size:=by rw [←G];simp
   obtain ⟨rl2,l⟩:=az RL'.length;have K:=aa l
   by_cases X:mI=1
   ·have HRn1:=aa (hr1 (by omega))
    have T:=B8 AR' a gR' RL' (u:Int) wA U b.ready hri;have Y:Hid (∀ w5 vb,Bl wA w5→w5.heap[vb]?=some (.cells #[.int .i64 (u:Int)] 3 (0,0))→vb≠gR'→Calls Tryz.prog 116 #[.slice AR' RL'.length a,.int .i64 (RL'.countP (· < (u:Int)):Nat),.slice (some ⟨vb,0,none⟩) 1 1] w5 fun e w'=>BA w5 gR' (RL'.countP (· < (u:Int))) RL' u e w'):=fun w5 vb h5 hv hne=>Fd AR' a gR' (RL'.countP (· < (u:Int))) vb RL' u w5 U List.countP_le_length (b.ready.later h5) hv hne
    rw [l] at T Y a2 q2;obtain ⟨cp,hcp⟩:=az (RL'.countP (· < (u:Int)));have HCp:Hid (RL'.take cp ++ (u:Int) :: RL'.drop cp=sw RL' u):=by show _=_;unfold sw;rw [hcp]
    rw [hcp] at T Y;subst X;have hz0:(1:Int)-1=0:=rfl;rw [hz0] at G cmA;clear d p r n e1 e3 e4 e12 e5 e6 e7 hnR hr1 hr2 hcl hbS b P L hri U F l hcp hz0;go_wp2_with fail;refine T.mono ?_;rintro e wB ⟨⟨bb,rfl⟩,g⟩;have HBB:=aa g;obtain ⟨b0,-,b2,bf⟩:=(J.out.later g).cells;rw [K.out] at b2;have hqB:=(J.out.later g).ql;obtain ⟨wC,hwC⟩:=az (wB.alloc (.cells #[.int .i64 (u:Int)] 3));have y:Bl wB wC:=by rw [←hwC];go_grown
    have hvC:wC.heap[wB.heap.size]?=some (.cells #[.int .i64 (u:Int)] 3 (0,0)):=by rw [←hwC];exact heap_alloc_new ..
    have W:=Y.out wC wB.heap.size (ae g y) hvC (by have:=g.size;omega)
    have I:=aa (ae g y);have d2:=aC y hqB b2;have hqC:q<wC.heap.size:=zW hqB y.size;clear g T G cm cmA a0 a2 q0 q2 hvC y;go_wp2_with fail;refine W.mono ?_;rintro e w6 ⟨g6,A6,c6,rfl,hV6,hg6,O⟩;obtain ⟨z2,zf,hq6⟩:=J.out.qin I.out O;rw [K.out] at z2;have hsC:=I.out.size;have hlen6:(RL'.take cp ++ (u:Int) :: RL'.drop cp).length=rl2+1:=by
     rw [HCp.out];unfold sw;rw [li List.countP_le_length,K.out]
    have Z:Hid (∃ M' gR'' AR' a RL',QS (w6.setCell ⟨q,2,none⟩ (.slice A6 (rl2+1) c6)) B q gM gU N M' UV (fun j=>bE Nn j N) gR'' AR' a RL'∧(∀ j,j<N→M' j=(ie Nn (aB Nn k) m (i+1) j:Int))∧kT Nn (aB Nn k) m (i+1) RL'∧(gR''=gR∨w.heap.size≤gR'')∧tB q gM gR w (w6.setCell ⟨q,2,none⟩ (.slice A6 (rl2+1) c6))):=by
     have hQ6:=J.out.setR I.out O hV6 (hg6.imp id fun h=>by omega) (by have:=HW.out;omega)
     rw [hlen6,HCp.out] at hQ6;refine ⟨_,g6,A6,c6,_,hQ6,HMA.out,HRn1.out,?_,su (Ca (B9 HFA.out I.out) O (D.imp id fun h=>h)) (Or.inl rfl)⟩
     rcases hg6 with h | h
     ·rw [h];exact D
     exact Or.inr (by omega)
    rw [K.out];clear W hwC d2 hV6 hg6 O b0 b2 bf;go_wp2_with fail
    go_roundg (t-(i+1))
    case measure=>omega
    case rel=>exact ⟨i+1,by omega,rfl,by go_num,Z⟩
   have hb1:((mI-1) == 0)=false:=by
    rw [beq_eq_false_iff_ne]
    omega
   have Z:Hid (∃ M' gR'' AR' a RL',QS wA B q gM gU N M' UV (fun j=>bE Nn j N) gR'' AR' a RL'∧(∀ j,j<N→M' j=(ie Nn (aB Nn k) m (i+1) j:Int))∧kT Nn (aB Nn k) m (i+1) RL'∧(gR''=gR∨w.heap.size≤gR'')∧tB q gM gR w wA):=⟨_,gR',AR',a,RL',b,P,hr2 (by omega),D,L⟩
   clear d p r n e1 e3 e4 e12 e5 e6 e7 hnR hr1 hr2 hcl hbS b P L hri U F l X;go_wp2_with fail
   go_roundg (t-(i+1))
   case measure=>omega
   case rel=>exact ⟨i+1,by omega,rfl,by go_num,Z⟩
  have hie:i=t:=by omega
  subst hie;go_wp2_with fail;go_ret;obtain ⟨M',gR',AR',a,RL',d,p,r,D,n⟩:=HSt.out;exact ⟨m,rfl,by omega,HOn.out,M',gR',AR',a,RL',d,fun j hj=>by rw [p j hj,V.out.1 j hj],V.out.2 _ r,D,n⟩
def rY (w w0:World) (q gM gU N k:Nat) (Nn:List (List Int)) (v:Value):Prop := ∃ M UV gR AR cR RL,QS w w0.heap.size q gM gU N M UV (fun j=>bE Nn j N) gR AR cR RL∧(∀ j,j<N→M j=(fp Nn (aB Nn k) j:Int))∧sd Nn (aB Nn k) RL∧w.ownsRow w0.heap.size 3 1 v k (aE (aB Nn k))∧(∀ b,v.ownBlock=some b→b≠gM∧b≠gR∧∀ j,j<N→(UV j).ownBlock≠some b)∧Bl w0 w
section
variable {w w0 w1:World} {q gM gU N k:Nat} {Nn:List (List Int)} {v:Value}
theorem rY.first (h:G3 w q gM gU N N Nn w0) (f:Nn.length=N) (n:nA Nn) (u:∀ i:Nat,i<Nn.length→cycB Nn i=false) (o:0<N) (p:N≤3000):rY (w.alloc (.cells (madeCells #[.int .i64 0] N) 3)) w0 q gM gU N 0 Nn (.slice (some ⟨w.heap.size,0,none⟩) 0 N):=by
 obtain ⟨M,UV,R,r,hM,l⟩:=h;have c:sd Nn [] (selTo (fun j=>(Nn.getD j []).isEmpty) N):=Db (by rw [f])
 obtain ⟨m,R',e,-⟩:=pN n u (k:=0) (by omega) c
 obtain ⟨gR,cR,d⟩:=QS.of r (by rw [e];simp)
 have a:Bl w (w.alloc (.cells (madeCells #[.int .i64 0] N) 3)):=by go_grown
 refine ⟨M,UV,gR,_,cR,_,d.later a,fun j g=>by rw [hM j g];show _=((fp Nn [] j:Nat):Int);rw [CB],c,?_,fun b s=>?_,ae l a⟩
 ·exact World.ownsRow_made w _ N l.size (by unfold maxLen;omega) (by simp [madeCells])
 have t:w.heap.size=b:=by simpa [Value.ownBlock] using s
 have v:=d.hM.lt;have x:=d.ready.lt;refine ⟨by omega,by omega,fun j g e=>?_⟩
 have:=(bP (d.own j g) e).2.1
 omega
theorem rY.ready (h:rY w w0 q gM gU N k Nn v) (f:Nn.length=N) (n:nA Nn) (o:∀ i:Nat,i<Nn.length→cycB Nn i=false):q<w.heap.size∧(k<N→∃ A l c,w.cell? ⟨q,2,none⟩=some (.slice A (l+1) c)∧l≤N)∧(k=N→∃ A c,w.cell? ⟨q,2,none⟩=some (.slice A 0 c)):=by
 obtain ⟨M,UV,gR,AR,cR,RL,g,z,a,-⟩:=h;refine ⟨g.ql,fun u=>?_,fun t=>?_⟩
 ·obtain ⟨m,R',e,-⟩:=pN n o (k:=k) (by omega) a
  have b:=sY (Nn:=Nn) a.1 fun x y=>by obtain ⟨j,p,r,-⟩:=(a.2 x).1 y;exact ⟨j,p,r⟩
  have d:=g.cells.2.2.1;rw [e,List.length_cons] at d;rw [e,List.length_cons] at b;exact ⟨AR,R'.length,cR,d,by omega⟩
 have s:RL=[]:=Ix n o (by rw [f,←t];exact a)
 have d:=g.cells.2.2.1;rw [s] at d;exact ⟨AR,cR,d⟩
theorem rY.step (h:rY w w0 q gM gU N k Nn v) (H:Nn.length=N) (T:nA Nn) (B:∀ i:Nat,i<Nn.length→cycB Nn i=false) (Y:∀ j,j<Nn.length→(Nn.getD j []).Pairwise (· < ·)) (W:∀ j,j<Nn.length→(Nn.getD j []).length≤12) (G:N≤3000) (V:k<N) :
  Calls Tryz.prog 77 #[.pointer (some ⟨q,0,none⟩)] w fun e w4 => ∃ m:Nat,e=.returned (.int .i64 m)∧m<N∧w4.ownsRow w0.heap.size 3 1 v k (aE (aB Nn k))∧w0.heap.size≤w4.heap.size∧∀ (w5 w6:World) (v':Value),Bl w4 w5→w6.ownsRow w0.heap.size 3 1 v' (k+1) (aE (aB Nn k) ++ [.int .i64 (m:Int)])→w5.grownBy w6 v.ownBlock→(v'.ownBlock=v.ownBlock∨v'.ownBlock=some w5.heap.size)→rY w6 w0 q gM gU N (k+1) Nn v':=by
 obtain ⟨M,UV,gR,AR,cR,RL,s,hM,J,A,R,o⟩:=h;refine (C8 w0.heap.size q gM gU N k Nn M UV gR AR cR RL w G H T B Y W V o.size s hM J).mono ?_;rintro e w4 ⟨m,rfl,X,Q,M',gR',AR',C,RL',f,F,z,O,p⟩;have l:∀ b,v.ownBlock=some b→b≠q∧b≠gU∧b<w.heap.size:=fun b a=>by
  obtain ⟨-,x,t,B⟩:=bP A a;exact ⟨(s.off B).1,(s.off B).2,x⟩
 have I:w4.ownsRow w0.heap.size 3 1 v k (aE (aB Nn k)):=by
  refine ⟨A.1,?_⟩
  rcases A.2 with h0 | ⟨g,cap,t,rfl,x,D,h4⟩
  ·exact Or.inl h0
  refine Or.inr ⟨g,cap,t,rfl,x,(p.block g (zY D).1 ?_).trans D,h4⟩;have n:=R g rfl;have E:=l g rfl;rintro (e | e | e)
  ·exact E.1 e
  ·exact n.1 e
  exact n.2.1 e
 have y:Bl w0 w4:=⟨p.os.trans o.os,p.tape.trans o.tape,p.output.trans o.output,zV o.size p.size,fun b a=>(p.block b (zW a o.size) (by
  have u:=s.lq;have x:=s.lM;have D:=s.lR;rintro (e | e | e) <;> omega)).trans (o.block b a)⟩
 refine ⟨m,rfl,X,I,y.size,fun w5 w6 v' n E r L=>?_⟩
 have d:∀ b,v.ownBlock=some b→b≠gM∧b≠gR'∧∀ j,j<N→(UV j).ownBlock≠some b:=fun b a=>by
  have u:=R b a;refine ⟨u.1,?_,u.2.2⟩
  rcases O with e | e
  ·rw [e];exact u.2.1
  have:=(l b a).2.2;omega
 have K:=(f.later n).keep r (fun e=>(l q e).1 rfl) (fun e=>(d gM e).1 rfl) (fun e=>(l gU e).2.1 rfl) (fun e=>(d gR' e).2.1 rfl) (fun j P b a e=>(d b e).2.2 j P a)
 refine ⟨M',UV,gR',AR',C,RL',K,F,z,?_,fun b a=>?_,?_⟩
 ·rw [Q,mapI_snoc];exact E
 ·rcases L with e | e
  ·exact d b (e.symm.trans a)
  have U:w5.heap.size=b:=by rw [e] at a;simpa using a
  have u:=(f.later n).hM.lt;have x:=(f.later n).ready.lt;refine ⟨by omega,by omega,fun j P S=>?_⟩
  have:=(bP ((f.later n).own j P) S).2.1
  omega
 have c:=ae y n;refine ⟨r.os.trans c.os,r.tape.trans c.tape,r.output.trans c.output,zV c.size r.size,fun b a=>(r.block b (zW a c.size) (fun e=>by have:=(bP A e.symm).1;omega)).trans (c.block b a)⟩
end
theorem m8 (W g n:Nat) (D:Nat→Dm) (X:Nat→AL) (w:World) (r:dI D n) (o:(am D n).2.2=0) (hA:cJ w W g n D X) :
  Calls Tryz.prog 38 #[.pointer (some ⟨W,0,none⟩)] w fun e w'=>(∃ A' u,e=.returned (.tuple #[.slice A' (prodN D n) u,.nilIface])∧aR w' A' u (aB (rowsL D n) (prodN D n)))∧Bl w w':=by
 obtain ⟨i0,L,T,U,V⟩:=info_parts Tryz.infoInt;obtain ⟨hn1,hn4,Q,hd⟩:=au o;have p:=FB W g n D X w r o hA;have E:Hid (∀ w',Bl w w'→Calls Tryz.prog 76 #[.pointer (some ⟨W,0,none⟩)] w' fun e w''=>e=.returned (.int .i64 (prodN D n:Nat))∧w''=w'):=fun w' hB=>ni W g n D X w' (hA.later hB)
 have H:0<prodN D n:=mE fun i hi=>(hd i hi).1
 have f:=aa (fk r o);have d:=aa (fD r o);have F:=aa (Dy r o);have B:Hid (∀ j,j<(rowsL D n).length→((rowsL D n).getD j []).length≤12):=fun j hj=>(fE r o (by rw [bN] at hj;exact hj)).2.1
 have b:Hid ((rowsL D n).length=prodN D n):=bN;have t:Hid ((aB (rowsL D n) (prodN D n)).length=prodN D n):=by
  show _=_
  have h:=ef (fk r o) (fD r o) (prodN D n) (by rw [bN];exact zT)
  exact h
 obtain ⟨Nn,I⟩:=az (rowsL D n);rw [I] at p f d F B b t ⊢;obtain ⟨N,hN⟩:=az (prodN D n);rw [hN] at p E b t Q H ⊢;have hNI:(N:Int)≤3000:=by omega
 have hmk:∀ w:World,(Instr.makeSlice 26 (.int .i64 0) (.int .i64 (N:Int))).run Tryz.prog w=.ok (.slice (some ⟨w.heap.size,0,none⟩) 0 N) (w.alloc (.cells (madeCells #[.int .i64 0] N) 3)):=fun w=>by
  have hr:=run_make (P:=Tryz.prog) w 26 3 i0 _ Tryz.underlying26 L T .i64 .i64 0 N (by omega) (by omega) (by rw [V];omega) (by omega)
  simp only [Int.toNat_natCast,U,Nat.mul_one] at hr;exact hr
 have C:=aa Q;clear hA o r hd I hN
 go_enter Tryz.func38,Tryz.ntmps38
 go_wp2_with fail;refine p.mono ?_;rintro e w1 ⟨q,gM,gU,rfl,v⟩;have q0:=aa v;have G:Bl w w1:=by obtain ⟨-,-,-,-,-,h⟩:=v;exact h
 have R:=E.out w1 G;clear p v;go_wp2_with fail;refine R.mono ?_;rintro e w2 ⟨rfl,rfl⟩;have HS0:=aa (rY.first q0.out b.out f.out d.out H C.out);clear R G;go_wp2_with fail;clear hmk
 go_loopg [6] N (fun gg s6 wr => ∃ (k:Nat) (AO:Option Addr) (z:Nat),k≤N∧gg=N-k∧s6=.slice AO k z∧Hid (rY wr w q gM gU N k Nn (.slice AO k z)))
 case atStart=>exact ⟨0,_,_,zU,rfl,rfl,HS0⟩
 case round =>
  obtain ⟨k,AO,z,hk,rfl,rfl,HS⟩:=hrel;obtain ⟨hql,x,y⟩:=HS.out.ready b.out f.out d.out
  by_cases O:k<N
  ·obtain ⟨Aq,l,cq,k2,hlN⟩:=x O
   have hlI:(l:Int)≤3000:=by omega
   have S:=HS.out.step b.out f.out d.out F.out B.out C.out O;clear x y;go_wp2_with fail;refine S.mono ?_;rintro e w4 ⟨m,rfl,hmN,J,hs4,s⟩;have Z:=aa J;have A:=aa s;clear S J s k2
   go_wp2_with (at_builtin;refine wpList_append_own_at _ rfl _ _ 26 rfl w.heap.size 3 i0 (.int .i64 0) 1 8 Tryz.underlying26 L T U V rfl (by decide) _ _ _ rfl (Z.out.alloc _) ⟨w4.heap.size,0,none⟩ 1 1 [.int .i64 m] rfl rfl bz dG (by unfold maxLen;omega) (by omega) (by simp;omega) ?_)
   intro v' w6 a c _ K;obtain ⟨A',u,rfl⟩:∃ A' u,v'=.slice A' (k+1) u:=by
    rcases a.2 with ⟨-,h⟩ | ⟨g',u,cur,h,-⟩
    ·omega
    exact ⟨_,_,h⟩
   have Y:=aa (A.out _ _ _ (by go_grown) a c (K.imp id fun h=>by rw [h];simp))
   clear a c K;go_wp2_with fail
   go_roundg (N-(k+1))
   case measure=>omega
   case rel=>exact ⟨k+1,_,_,by omega,rfl,rfl,Y⟩
  have M:k=N:=by omega
  obtain ⟨Aq,cq,k2⟩:=y M;subst M;have HF:Hid (aR wr AO z (aB Nn k)∧Bl w wr):=by
   obtain ⟨-,-,-,-,-,-,-,-,-,hO,-,hB⟩:=HS.out;refine ⟨?_,hB⟩;have hO3:wr.ownsRow w.heap.size 3 1 (.slice AO k z) (aB Nn k).length (aE (aB Nn k)):=by rw [t.out];exact hO
   obtain ⟨A',u,e,hI⟩:=bQ hO3;simp only [Value.slice.injEq] at e;obtain ⟨rfl,-,rfl⟩:=e;exact hI
  clear x y;go_wp2_with fail;go_returns;exact ⟨⟨AO,z,rfl,HF.out.1⟩,HF.out.2⟩
end Go.Proofs.YtohgnbgamfepoaaGreatDoor
