/- What newQueue of packa -/
import Derived.Test.YthlhjjabkgpenaaGreatDoorJTBL
namespace Go.Proofs.YthlhjjabkgpenaaGreatDoor
open ChangeShapes WideShapes ChangeAt RowKit
set_option maxRecDepth 99999
set_option maxHeartbeats 0
theorem mh (q g n:Nat) (D:Nat→Dm) (X:Nat→AL) (w:World) (a:ff w q g n D X):Calls Tryz.prog 96 #[.pointer (some ⟨q,0,none⟩)] w fun e w'=>e=.returned (.int .i64 (prodN D n:Nat))∧w'=w:=by
 obtain ⟨b,c,d⟩:=a.cells;generalize prodN D n=N at *;clear a
 go_enter Tryz.func96,Tryz.ntmps96
 go_wp2_with fail;go_ret;exact ⟨rfl,rfl⟩
theorem za {w w3:World} {B gM gU N:Nat} {UV:Nat→Value} {UL:Nat→List Int} (hU:UM w3 B gU N UV UL) (d:dN w3 gM N 3 fun _=>.int .i64 0) (c:Bl w w3) (b:w.heap.size≤B) (e:w.heap.size≤gM) (f:∀ j,j<N→(UV j).ownBlock≠some gM) :
  QM (w3.alloc (.cells #[.slice (some ⟨gM,0,none⟩) N N,.slice (some ⟨gU,0,none⟩) N N,.slice none 0 0] 161)) w.heap.size w3.heap.size gM gU N (fun _=>0) UV UL (.slice none 0 0) []∧Bl w (w3.alloc (.cells #[.slice (some ⟨gM,0,none⟩) N N,.slice (some ⟨gU,0,none⟩) N N,.slice none 0 0] 161)):=by
 have a:Bl w3 (w3.alloc (.cells #[.slice (some ⟨gM,0,none⟩) N N,.slice (some ⟨gU,0,none⟩) N N,.slice none 0 0] 161)):=by go_grown
 refine ⟨⟨heap_alloc_new _ _,d.same (a.block _ d.lt),hU.hU.same (a.block _ hU.hU.lt),fun j g=>ar (kM (hU.own j g) b) a,World.ownsRow_nil _ _ _ _,f,hU.dU,fun h=>(by cases h),fun _ _ _ h=>(by cases h),c.size,e,zV b hU.lU⟩,ae c a⟩
theorem ET {w w' w4:World} {gU N:Nat} {Nn:List (List Int)} (d:FI w4 gU N N Nn w') (g:w.heap.size≤w'.heap.size) (b:Bl w w4) :
  ∃ UV,QM ((w4.alloc (.cells (madeCells #[.int .i64 0] N) 3)).alloc (.cells #[.slice (some ⟨w4.heap.size,0,none⟩) N N,.slice (some ⟨gU,0,none⟩) N N,.slice none 0 0] 161)) w.heap.size (w4.heap.size+1) w4.heap.size gU N (fun _=>0) UV (fun j=>bL Nn j N) (.slice none 0 0) []∧Bl w ((w4.alloc (.cells (madeCells #[.int .i64 0] N) 3)).alloc (.cells #[.slice (some ⟨w4.heap.size,0,none⟩) N N,.slice (some ⟨gU,0,none⟩) N N,.slice none 0 0] 161)):=by
 obtain ⟨UV,c,i⟩:=d;have a:Bl w4 (w4.alloc (.cells (madeCells #[.int .i64 0] N) 3)):=by go_grown
 have h:=za (c.later a) (dN.made w4 N 3 (.int .i64 0)) (ae b a) g b.size fun j f e=>by
  have:=(bZ (c.own j f) e).2.1
  omega
 rw [show (w4.alloc (.cells (madeCells #[.int .i64 0] N) 3)).heap.size=w4.heap.size+1 from by simp] at h
 exact ⟨UV,h⟩
theorem BI {w w' w4:World} {gM gU N:Nat} {Nn:List (List Int)} (a:FI w4 gU N N Nn w') (h:w.heap.size≤w'.heap.size) (d:Bl w w4) (b:dN w' gM N 3 fun _=>.int .i64 0) (c:w.heap.size≤gM) :
  ∃ UV,QM (w4.alloc (.cells #[.slice (some ⟨gM,0,none⟩) N N,.slice (some ⟨gU,0,none⟩) N N,.slice none 0 0] 161)) w.heap.size w4.heap.size gM gU N (fun _=>0) UV (fun j=>bL Nn j N) (.slice none 0 0) []∧Bl w (w4.alloc (.cells #[.slice (some ⟨gM,0,none⟩) N N,.slice (some ⟨gU,0,none⟩) N N,.slice none 0 0] 161)):=by
 obtain ⟨UV,a,f⟩:=a;exact ⟨UV,za a (b.same (f.block _ b.lt)) d h c fun j g e=>by
  have i:=(bZ (a.own j g) e).1;have k:=b.lt
  omega⟩
def FN (w:World) (q gM gU N k:Nat) (Nn:List (List Int)) (w1:World):Prop := ∃ M UV R,QM w w1.heap.size q gM gU N M UV (fun j=>bL Nn j N) R (selTo (fun j=>(Nn.getD j []).isEmpty) k)∧(∀ j,j<k→M j=((Nn.getD j []).length:Int))∧Bl w1 w
def IV (w:World) (q gM gU N k:Nat) (Nn:List (List Int)) (w1:World):Prop := ∃ M UV R,QM w w1.heap.size q gM gU N M UV (fun j=>bL Nn j N) R (selTo (fun j=>(Nn.getD j []).isEmpty) k)∧(∀ j,j<k+1→M j=((Nn.getD j []).length:Int))∧Bl w1 w
section
variable {w w2 w1:World} {q gM gU N k tl:Nat} {Nn:List (List Int)}
theorem FN.put (h:FN w q gM gU N k Nn w1) (b:Bl w w2) (f:(Nn.getD k []).length=tl):IV (w2.setCell ⟨gM,k,none⟩ (.int .i64 (tl:Int))) q gM gU N k Nn w1:=by
 obtain ⟨M,UV,R,a,d,c⟩:=h;refine ⟨fun j=>if j=k then (tl:Int) else M j,UV,R,(a.later b).setM k (tl:Int),fun j g=>?_,(ae c b).setCell a.lM _⟩
 by_cases e:j=k
 ·show (if j=k then (tl:Int) else M j)=_
  rw [if_pos e,e,f]
 show (if j=k then (tl:Int) else M j)=_
 rw [if_neg e];exact d j (by omega)
theorem IV.done (h:IV w q gM gU N k Nn w1) (b:(Nn.getD k []).length≠0):FN w q gM gU N (k+1) Nn w1:=by
 obtain ⟨M,UV,R,f,e,d⟩:=h;refine ⟨M,UV,R,?_,e,d⟩;have c:selTo (fun j=>(Nn.getD j []).isEmpty) (k+1)=selTo (fun j=>(Nn.getD j []).isEmpty) k:=by
  rw [selTo];have:(Nn.getD k []).isEmpty=false:=by
   generalize Nn.getD k []=T at b;cases T with
   | nil=>exact absurd rfl b
   | cons a r=>rfl
  rw [this]
  simp
 rw [c];exact f
theorem IV.free (h:IV w q gM gU N k Nn w1) (F:(Nn.getD k []).length=0) :
  ∃ AO ln i Ly,w.cell? ⟨q,2,none⟩=some (.slice AO ln i)∧w.frozen? ⟨q,2,none⟩=false∧ln≤k∧w.ownsRow w1.heap.size 3 1 (.slice AO ln i) ln (aE Ly)∧(∀ (w5 w6:World),Bl w w5→w5.grownBy w6 (Value.slice AO ln i).ownBlock→w6.cell? ⟨q,2,none⟩=some (.slice AO ln i)∧w6.frozen? ⟨q,2,none⟩=false∧q<w6.heap.size) ∧
  ∀ (w5 w6:World) (v:Value),Bl w w5→w6.ownsRow w1.heap.size 3 1 v (ln+1) (aE Ly ++ [.int .i64 (k:Int)])→w5.grownBy w6 (Value.slice AO ln i).ownBlock→(v.ownBlock=(Value.slice AO ln i).ownBlock∨v.ownBlock=some w5.heap.size)→FN (w6.setCell ⟨q,2,none⟩ v) q gM gU N (k+1) Nn w1:=by
 obtain ⟨M,UV,R,f,D,l⟩:=h;have n:=f.ready;obtain ⟨AO,i,p⟩:∃ AO i,R=.slice AO (selTo (fun j=>(Nn.getD j []).isEmpty) k).length i:=by
  rcases n.2 with ⟨s,B⟩ | ⟨g,cap,r,s,-⟩
  ·exact ⟨none,0,by rw [s,B]⟩
  exact ⟨_,_,s⟩
 have y:∀ b,R.ownBlock=some b→b≠q∧b≠gU:=fun b o=>by
  obtain ⟨-,-,r,G⟩:=bZ n o;exact f.off G
 have u:∀ (w5 w6:World),Bl w w5→w5.grownBy w6 R.ownBlock→w6.heap[q]?=w.heap[q]?:=fun w5 w6 c d=>(d.block q (zW f.ql c.size) (fun e=>(y q e.symm).1 rfl)).trans (c.block q f.ql)
 refine ⟨AO,_,i,_,by rw [←p];exact f.cells.2.2.1,f.cells.2.2.2,GN _ _,by rw [←p];exact n,fun w5 w6 c d=>?_,fun w5 w6 v c C d m=>?_⟩
 ·rw [←p] at d ⊢
  have z:=u w5 w6 c d;refine ⟨(World.cell?_of_block (a:=⟨q,2,none⟩) z).trans f.cells.2.2.1,(World.frozen?_of_block (a:=⟨q,2,none⟩) z).trans f.cells.2.2.2,?_⟩;have:=f.ql;have:=c.size;have:=d.size
  omega
 rw [←p] at d m;have x:(selTo (fun j=>(Nn.getD j []).isEmpty) k ++ [(k:Int)]).length=(selTo (fun j=>(Nn.getD j []).isEmpty) k).length+1:=by rw [List.length_append];rfl
 have E:=f.pushR (L:=selTo (fun j=>(Nn.getD j []).isEmpty) k ++ [(k:Int)]) (v:=v) (H:=w5.heap.size) c d (by rw [x,mapI_snoc];exact C) m c.size
 have t:Bl w1 w6:=⟨d.os.trans (ae l c).os,d.tape.trans (ae l c).tape,d.output.trans (ae l c).output,zV (ae l c).size d.size,fun b o=>(d.block b (zW o (ae l c).size) (fun e=>by have:=(bZ n e.symm).1;omega)).trans ((ae l c).block b o)⟩
 refine ⟨M,UV,v,?_,D,t.setCell f.lq _⟩;have A:selTo (fun j=>(Nn.getD j []).isEmpty) (k+1)=selTo (fun j=>(Nn.getD j []).isEmpty) k ++ [(k:Int)]:=by
  rw [selTo];rw [List.eq_nil_of_length_eq_zero F]
  simp
 rw [A];exact E
end
theorem Ef (l g n:Nat) (D:Nat→Dm) (X:Nat→AL) (w:World) (K:dS D n) (B:(ah D n).2.2=0) (Z:ff w l g n D X) :
  Calls Tryz.prog 95 #[.pointer (some ⟨l,0,none⟩)] w fun e w' => ∃ q gM gU,e=.returned (.tuple #[.pointer (some ⟨q,0,none⟩),.nilIface])∧FN w' q gM gU (prodN D n) (prodN D n) (cH D n) w:=by
 obtain ⟨i0,hi0,hz0,hz1,hz2⟩:=info_parts Tryz.infoInt;obtain ⟨hn1,hn4,hp3,hd⟩:=aw B;have p:Hid (∀ w',Bl w w'→Calls Tryz.prog 96 #[.pointer (some ⟨l,0,none⟩)] w' fun e w''=>e=.returned (.int .i64 (prodN D n:Nat))∧w''=w'):=fun w' t=>mh l g n D X w' (Z.later t)
 have i:Hid (∀ w',Bl w w'→Calls Tryz.prog 123 #[.pointer (some ⟨l,0,none⟩)] w' fun e w''=>(∃ gU,e=.returned (.slice (some ⟨gU,0,none⟩) (prodN D n) (prodN D n))∧FI w'' gU (prodN D n) (prodN D n) (cH D n) w')∧Bl w' w''):=fun w' t=>by
  refine (CC l g n D X w' K B (Z.later t)).mono ?_;rintro e w'' ⟨gU,rfl,hU⟩;exact ⟨⟨gU,rfl,hU⟩,hU.choose_spec.2⟩
 have o:Hid (∀ k w',k<prodN D n→Bl w w'→Calls Tryz.prog 124 #[.pointer (some ⟨l,0,none⟩),.int .i64 k] w' fun e w''=>(∃ A' s,e=.returned (.tuple #[.slice A' ((cH D n).getD k []).length s,.nilIface]))∧Bl w' w''):=fun k w' S t=>by
  refine (wV l g n D X k w' K B S (Z.later t)).mono ?_;rintro e w'' ⟨⟨A',s,T,rfl,hI,hT,-,hA'⟩,hb⟩;have hTe:T=(cH D n).getD k []:=by rw [mO K B hT,mJ S]
  rw [←hTe];exact ⟨⟨A',s,rfl⟩,hb⟩
 have r:Hid (∀ k,k<prodN D n→((cH D n).getD k []).length≤12):=fun k S=>(gY K B S).2.1
 obtain ⟨Nn,J⟩:=ax (cH D n);rw [J] at o r i ⊢;obtain ⟨N,hN⟩:=ax (prodN D n);rw [hN] at p o r i hp3 ⊢;have hNI:(N:Int)≤3000:=by omega
 have U:=run_make_row' (P:=Tryz.prog) 26 3 (.int .i64 0) 8 Tryz.underlying26 Tryz.infoInt rfl .i64 .i64 N (by omega) (by omega)
 clear Z B K hd J hN
 go_enter Tryz.func95,Tryz.ntmps95
 go_upto_region 1 with fail
 go_cut [4] from 8 (fun s4 wx => ∃ q gM gU UV,s4=.pointer (some ⟨q,0,none⟩)∧QM wx w.heap.size q gM gU N (fun _=>0) UV (fun j=>bL Nn j N) (.slice none 0 0) []∧Bl w wx)
 case first =>
  go_region_law ((first
   | (go_simp;refine (p.out _ (by go_grown)).mono ?_;rintro e w3 ⟨rfl,rfl⟩)
   | (go_simp;refine (i.out _ (by go_grown)).mono ?_;rintro e w4 ⟨⟨gU,rfl,O⟩,x⟩;have I:=ae (W0:=w) (by go_grown) x;have hs4:=x.size;clear x)))
  all_goals go_wp2_with fail
  all_goals go_meet
  all_goals first
   | (obtain ⟨UV,h1,h2⟩:=ET (w:=w) O (by first | exact zT | simp) I;exact ⟨_,_,_,UV,rfl,h1,h2⟩)
   | (obtain ⟨UV,h1,h2⟩:=BI (w:=w) O (by first | exact zT | simp) I (dN.made w N 3 (.int .i64 0)) (zT);exact ⟨_,_,_,UV,rfl,h1,h2⟩)
 case rest =>
 obtain ⟨q,gM,gU,UV,rfl,C,u⟩:=hcut;obtain ⟨w1,rfl⟩:∃ w1:World,w1=wc:=⟨_,rfl⟩;have Lu:Hid (FN w1 q gM gU N 0 Nn w):=by
  exact ⟨fun _=>0,UV,.slice none 0 0,C,fun j hj=>absurd hj (Nat.not_lt_zero _),u⟩
 have V:=p.out w1 u;clear U C u i;go_wp2_with fail;refine V.mono ?_;rintro e w2 ⟨rfl,rfl⟩;clear V;go_wp2_with fail
 go_loopg [17] N (fun gg s17 wr => ∃ (k:Nat),k≤N∧gg=N-k∧s17=.int .i64 k∧Hid (FN wr q gM gU N k Nn w))
 case atStart=>exact ⟨0,zU,rfl,rfl,Lu⟩
 case round =>
  obtain ⟨k,S,rfl,rfl,Y⟩:=hrel
  by_cases y:k<N
  ·have hki:(k:Int)<(N:Int):=by omega
   have Lt:Hid (Bl w wr):=by obtain ⟨-,-,-,-,-,h⟩:=Y.out;exact h
   have z:=o.out k wr y Lt.out;have h12:=r.out k y;obtain ⟨tl,A⟩:=ax ((Nn.getD k []).length);have f:=aa A;rw [A] at z h12;have htI:(tl:Int)≤12:=by omega
   clear A;go_wp2_with fail;refine z.mono ?_;rintro e w3 ⟨⟨A2,c2,rfl⟩,v⟩;have c:=aa (Y.out.put v f.out);obtain ⟨m0,m1,mf,mq,mg⟩:w3.cell? ⟨q,0,none⟩=some (.slice (some ⟨gM,0,none⟩) N N)∧w3.cell? ⟨gM,k,none⟩≠none∧w3.frozen? ⟨gM,k,none⟩=false∧q<w3.heap.size∧gM<w3.heap.size:=by
    obtain ⟨M,UV,R,C,-,-⟩:=Y.out;have d:=C.later v;exact ⟨d.cells.1,by rw [d.hM.cell y];simp,d.hM.frozen k,d.ql,d.hM.lt⟩
   obtain ⟨mv,m1'⟩:=Option.ne_none_iff_exists'.1 m1;obtain ⟨wr2,W⟩:=ax (w3.setCell ⟨gM,k,none⟩ (.int .i64 (tl:Int)));rw [W] at c;clear z v m1
   by_cases G:tl=0
   ·obtain ⟨AO,ln,cO,Ly,cR,hfR,hln,hO,L,H⟩:=c.out.free (by rw [f.out];exact G)
    have HO:=aa hO;have F:=aa L;have E:=aa H;obtain ⟨hql,hBs⟩:q<wr2.heap.size∧w.heap.size≤wr2.heap.size:=by
     obtain ⟨M,UV,R,C,-,t⟩:=c.out;exact ⟨C.ql,t.size⟩
    have hlnI:ln≤3000:=by omega
    have Lv:((tl:Int) == 0)=true:=by simp [G]
    clear hO L H c f G
    go_wp2_with (at_builtin;refine wpList_append_own_at _ rfl _ _ 26 rfl w.heap.size 3 i0 (.int .i64 0) 1 8 Tryz.underlying26 hi0 hz0 hz1 hz2 rfl (by decide) _ _ _ rfl (HO.out.alloc _) ⟨wr2.heap.size,0,none⟩ 1 1 [.int .i64 k] rfl rfl bu dY (by unfold maxLen;omega) (by omega) (by simp;omega) ?_)
    intro v' w6 b a _ Q;obtain ⟨y1,y2,y3⟩:=F.out _ _ (by go_grown) a
    obtain ⟨A',s,rfl⟩:∃ A' s,v'=.slice A' (ln+1) s:=by
     rcases b.2 with ⟨-,h⟩ | ⟨g',s,cur,h,-⟩
     ·omega
     exact ⟨_,_,h⟩
    have m:=aa (E.out _ _ _ (by go_grown) b a (Q.imp id fun h=>by rw [h];simp))
    clear b a Q;go_wp2_with fail
    go_roundg (N-(k+1))
    case measure=>omega
    case rel=>exact ⟨k+1,by omega,rfl,by go_num,m⟩
   have Lv:((tl:Int) == 0)=false:=by simpa using G
   have m:Hid (FN wr2 q gM gU N (k+1) Nn w):=c.out.done (by rw [f.out];exact G)
   clear c;go_wp2_with fail
   go_roundg (N-(k+1))
   case measure=>omega
   case rel=>exact ⟨k+1,by omega,rfl,by go_num,m⟩
  have hke:k=N:=by omega
  subst hke;go_wp2_with fail;go_returns;exact ⟨q,gM,gU,rfl,Y.out⟩
structure QS (w:World) (B q gM gU N:Nat) (M:Nat→Int) (UV:Nat→Value) (UL:Nat→List Int) (gR:Nat) (AR:Option Addr) (cR:Nat) (RL:List Int):Prop where
 hq:w.heap[q]?=some (.cells #[.slice (some ⟨gM,0,none⟩) N N,.slice (some ⟨gU,0,none⟩) N N,.slice AR RL.length cR] 161 (0,0))
 hM:dN w gM N 3 fun j=>.int .i64 (M j)
 hU:dN w gU N 26 UV
 own:∀ j,j<N→w.ownsRow B 3 1 (UV j) (UL j).length (aE (UL j))
 ready:gv w gR AR cR RL
 dM:∀ j,j<N→(UV j).ownBlock≠some gM
 dR:gR≠gM
 dRU:∀ j,j<N→(UV j).ownBlock≠some gR
 lq:B≤q
 lM:B≤gM
 lU:B≤gU
 lR:B≤gR
theorem QS.of {w:World} {B q gM gU N:Nat} {M:Nat→Int} {UV:Nat→Value} {UL:Nat→List Int} {R:Value} {RL:List Int} (h:QM w B q gM gU N M UV UL R RL) (hl:0<RL.length):∃ gR cR,QS w B q gM gU N M UV UL gR (some ⟨gR,0,none⟩) cR RL:=by
 obtain ⟨gR,cR,hR,hB,hV⟩:=gv.own h.ready hl
 refine ⟨gR,cR,by rw [←hR];exact h.hq,h.hM,h.hU,h.own,hV,h.dM,fun e=>h.dR (by rw [hR,←e];rfl),fun j hj e=>h.dRU j hj gR (by rw [hR];rfl) e,h.lq,h.lM,h.lU,hB⟩
section
variable {w w':World} {B q gM gU N:Nat} {M:Nat→Int} {UV:Nat→Value} {UL:Nat→List Int} {gR:Nat} {AR:Option Addr} {cR:Nat} {RL:List Int}
theorem QS.ql (h:QS w B q gM gU N M UV UL gR AR cR RL):q<w.heap.size:=(zY h.hq).1
theorem QS.later (h:QS w B q gM gU N M UV UL gR AR cR RL) (a:Bl w w'):QS w' B q gM gU N M UV UL gR AR cR RL :=
 ⟨(a.block q h.ql).trans h.hq,h.hM.same (a.block _ h.hM.lt),h.hU.same (a.block _ h.hU.lt),fun j b=>ar (h.own j b) a,h.ready.later a,h.dM,h.dR,h.dRU,h.lq,h.lM,h.lU,h.lR⟩
theorem QS.keep (h:QS w B q gM gU N M UV UL gR AR cR RL) {r:Option Nat} (a:w.grownBy w' r) (d:r≠some q) (f:r≠some gM) (g:r≠some gU) (i:r≠some gR) (k:∀ j,j<N→∀ b,(UV j).ownBlock=some b→r≠some b):QS w' B q gM gU N M UV UL gR AR cR RL :=
 ⟨(a.block q h.ql (fun e=>d e.symm)).trans h.hq,h.hM.same (a.block _ h.hM.lt (fun e=>f e.symm)),h.hU.same (a.block _ h.hU.lt (fun e=>g e.symm)),fun j c=>jq (h.own j c) a (k j c),h.ready.same (a.block _ h.ready.lt (fun e=>i e.symm)),h.dM,h.dR,h.dRU,h.lq,h.lM,h.lU,h.lR⟩
theorem QS.cells (h:QS w B q gM gU N M UV UL gR AR cR RL):w.cell? ⟨q,0,none⟩=some (.slice (some ⟨gM,0,none⟩) N N)∧w.cell? ⟨q,1,none⟩=some (.slice (some ⟨gU,0,none⟩) N N)∧w.cell? ⟨q,2,none⟩=some (.slice AR RL.length cR)∧w.frozen? ⟨q,2,none⟩=false :=
 ⟨by simp [World.cell?,h.hq],by simp [World.cell?,h.hq],by simp [World.cell?,h.hq],by simp [World.frozen?,h.hq]⟩
theorem QS.off (h:QS w B q gM gU N M UV UL gR AR cR RL) {b:Nat} {a:Array Value} (c:w.heap[b]?=some (.cells a 3 (0,0))):b≠q∧b≠gU:=by
 refine ⟨fun e=>?_,h.hU.off c gn⟩
 rw [e,h.hq] at c
 simp at c
theorem QS.ne (h:QS w B q gM gU N M UV UL gR AR cR RL):q≠gM∧q≠gU∧gM≠gU∧gR≠q∧gR≠gU:=by
 obtain ⟨-,-,o,-,⟨b,c,-⟩,-⟩:=h.ready;have a:=h.off c;refine ⟨fun e=>?_,fun e=>?_,fun e=>?_,a.1,a.2⟩
 ·have a:=h.hq;rw [e,h.hM] at a;simp at a
 ·have a:=h.hq;rw [e,h.hU] at a;simp at a
 have a:=h.hM;unfold dN at a;rw [e,h.hU] at a;simp at a
theorem QS.ownOff (h:QS w B q gM gU N M UV UL gR AR cR RL) {j b:Nat} (e:j<N) (c:(UV j).ownBlock=some b):b≠q∧b≠gU:=by
 obtain ⟨-,-,a,d⟩:=bZ (h.own j e) c;exact h.off d
theorem QS.users (h:QS w B q gM gU N M UV UL gR AR cR RL) {j:Nat} (a:j<N) {A:Option Addr} {c:Nat} (b:UV j=.slice A (UL j).length c):w.cell? ⟨gU,j,none⟩=some (.slice A (UL j).length c)∧aY w A c (UL j):=by
 refine ⟨by rw [←b];exact h.hU.cell a,?_⟩
 obtain ⟨A',f,e,d⟩:=cE (h.own j a);rw [b] at e;cases e;exact d
theorem QS.qin (h:QS w B q gM gU N M UV UL gR AR cR RL) {w5 w6:World} (b:Bl w w5) (c:w5.grownBy w6 (some gR)):w6.cell? ⟨q,2,none⟩=some (.slice AR RL.length cR)∧w6.frozen? ⟨q,2,none⟩=false∧q<w6.heap.size:=by
 obtain ⟨n1,n2,n3,n4,n5⟩:=h.ne;have e:w6.heap[q]?=w.heap[q]?:=(c.block q (zW h.ql b.size) (fun e=>n4 (by simpa using e.symm))).trans (b.block q h.ql)
 refine ⟨(World.cell?_of_block (a:=⟨q,2,none⟩) e).trans h.cells.2.2.1,(World.frozen?_of_block (a:=⟨q,2,none⟩) e).trans h.cells.2.2.2,?_⟩;have:=h.ql;have:=b.size;have:=c.size
 omega
theorem QS.setM (h:QS w B q gM gU N M UV UL gR AR cR RL) (m:Nat) (x:Int):QS (w.setCell ⟨gM,m,none⟩ (.int .i64 x)) B q gM gU N (fun j=>if j=m then x else M j) UV UL gR AR cR RL:=by
 obtain ⟨n1,n2,n3,n4,n5⟩:=h.ne;refine ⟨by rw [ao _ _ _ _ _ n1];exact h.hq,?_,h.hU.same (ao _ _ _ _ _ n3.symm),fun j a=>fp (h.own j a) (h.dM j a),h.ready.same (ao _ _ _ _ _ h.dR),h.dM,h.dR,h.dRU,h.lq,h.lM,h.lU,h.lR⟩
 refine h.hM.set (f':=fun j=>.int .i64 (if j=m then x else M j)) fun j _=>?_
 by_cases e:j=m
 ·simp only [if_pos e]
 simp only [if_neg e]
theorem QS.setR (h:QS w B q gM gU N M UV UL gR AR cR RL) {w5 w6:World} {g' f:Nat} {A':Option Addr} {L:List Int} (i:Bl w w5) (m:w5.grownBy w6 (some gR)) (p:gv w6 g' A' f L) (c:g'=gR∨w.heap.size≤g') (r:B≤w.heap.size):QS (w6.setCell ⟨q,2,none⟩ (.slice A' L.length f)) B q gM gU N M UV UL g' A' f L:=by
 obtain ⟨n1,n2,n3,n4,n5⟩:=h.ne;have a:∀ b,b<w.heap.size→b≠gR→w6.heap[b]?=w.heap[b]?:=fun b g l=>(m.block b (zW g i.size) (fun e=>l (by simpa using e))).trans (i.block b g)
 have o:g'≠q:=by
  rcases c with rfl | c
  ·exact n4
  have:=h.ql;omega
 refine ⟨?_,(h.hM.same (a _ h.hM.lt h.dR.symm)).same (ao _ _ _ _ _ n1.symm),(h.hU.same (a _ h.hU.lt n5.symm)).same (ao _ _ _ _ _ n2.symm),fun j d=>?_,p.same (ao _ _ _ _ _ o),h.dM,?_,fun j d=>?_,h.lq,h.lM,h.lU,?_⟩
 ·have:=cI (k:=2) (v:=.slice A' L.length f) ((a q h.ql n4.symm).trans h.hq)
  simpa using this
 ·refine fp (jq (ar (h.own j d) i) m fun b g e=>h.dRU j d (by rw [e];exact g)) fun n=>(h.ownOff d n).1 rfl
 ·rcases c with rfl | c
  ·exact h.dR
  have:=h.hM.lt;omega
 ·rcases c with rfl | c
  ·exact h.dRU j d
  intro e;have:=(bZ (h.own j d) e).2.1
  omega
 rcases c with rfl | c
 ·exact h.lR
 omega
theorem gv.tail {g o:Nat} {m:Int} {R:List Int} (h:gv w g (some ⟨g,o,none⟩) cR (m :: R)):gv w g (if cR=1 then some ⟨g,o,none⟩ else some ⟨g,o+1,none⟩) (cR-1) R:=by
 obtain ⟨f,l,o',i,⟨a,c,n⟩,b⟩:=h;cases i;simp only [List.length_cons] at f b
 by_cases e:cR=1
 ·rw [if_pos e]
  have k:R=[]:=List.eq_nil_of_length_eq_zero (by omega)
  subst k;exact ⟨zU,by omega,o,rfl,⟨a,c,by omega⟩,fun j d=>by simp at d⟩
 rw [if_neg e];refine ⟨by omega,by omega,o+1,rfl,⟨a,c,by omega⟩,fun j d=>?_⟩
 have:=b (j+1) (by omega)
 rw [show o+1+j=o+(j+1) by omega]
 rw [List.getD_cons_succ] at this;exact this
end
theorem rV {Nn:List (List Int)} {R:List Int} (h:R.Pairwise (· < ·)) (a:∀ x∈R,∃ j:Nat,x=j∧j<Nn.length):R.length≤Nn.length:=few _ _ (h.imp fun h=>by omega) fun x b=>by
 obtain ⟨j,rfl,c⟩:=a x b
 omega
def sw (q gM gR:Nat) (w w':World):Prop:=Kept w.heap.size (fun k=>k=q∨k=gM∨k=gR) w w'
theorem sw.refl (q gM gR:Nat) (w:World):sw q gM gR w w:=Kept.refl _ _ _
theorem Af {q gM gR:Nat} {w w1 w2:World} (h:sw q gM gR w w1) (k:Bl w1 w2):sw q gM gR w w2:=⟨k.os.trans h.os,k.tape.trans h.tape,k.output.trans h.output,zV h.size k.size,fun i a b=>(k.block i (zW a h.size)).trans (h.block i a b)⟩
theorem rv {q gM gR b j:Nat} {w w1:World} {v:Value} (h:sw q gM gR w w1) (c:b=q∨b=gM∨b=gR∨w.heap.size≤b):sw q gM gR w (w1.setCell ⟨b,j,none⟩ v):=⟨h.os,h.tape,h.output,by simp only [World.size_setCell];exact h.size,fun i d a=>by
 rw [ao _ _ _ _ _ (fun e=>by
  rcases c with h1 | h1 | h1 | h1
  ·exact a (Or.inl (e.trans h1))
  ·exact a (Or.inr (Or.inl (e.trans h1)))
  ·exact a (Or.inr (Or.inr (e.trans h1)))
  omega)]
 exact h.block i d a⟩
theorem Ah {q gM gR b:Nat} {w w1 w2:World} (h:sw q gM gR w w1) (a:w1.grownBy w2 (some b)) (g:b=gR∨w.heap.size≤b):sw q gM gR w w2:=⟨a.os.trans h.os,a.tape.trans h.tape,a.output.trans h.output,zV h.size a.size,fun i c d=>by
 rw [a.block i (zW c h.size) (fun e=>by
  have f:i=b:=by simpa using e
  rcases g with h1 | h1
  ·exact d (Or.inr (Or.inr (f.trans h1)))
  omega)]
 exact h.block i c d⟩
theorem BJ (B q gM gU N k:Nat) (Nn:List (List Int)) (M:Nat→Int) (UV:Nat→Value) (gR:Nat) (AR:Option Addr) (H:Nat) (RL:List Int) (w:World) (hN3:N≤3000) (z:Nn.length=N) (hN:mw Nn) (hc:∀ i:Nat,i<Nn.length→cycB Nn i=false) (hr:∀ j,j<Nn.length→(Nn.getD j []).Pairwise (· < ·)) (hl:∀ j,j<Nn.length→(Nn.getD j []).length≤12) (hk:k<N) (hB:B≤w.heap.size)
  (S:QS w B q gM gU N M UV (fun j=>bL Nn j N) gR AR H RL) (hM:∀ j,j<N→M j=(eN Nn (ay Nn k) j:Int)) (T:re Nn (ay Nn k) RL) :
  Calls Tryz.prog 97 #[.pointer (some ⟨q,0,none⟩)] w fun e w' => ∃ m:Nat,e=.returned (.int .i64 m)∧m<N∧ay Nn (k+1)=ay Nn k ++ [(m:Int)]∧∃ M' gR' AR' a RL',QS w' B q gM gU N M' UV (fun j=>bL Nn j N) gR' AR' a RL'∧(∀ j,j<N→M' j=(eN Nn (ay Nn (k+1)) j:Int))∧re Nn (ay Nn (k+1)) RL'∧(gR'=gR∨w.heap.size≤gR')∧sw q gM gR w w':=by
 obtain ⟨m,R0,rfl,hmN,hmo,hon,hRI⟩:=oK hN hc (k:=k) (by omega) T
 have E:=rV (Nn:=Nn) T.1 fun x hx=>by obtain ⟨j,h1,I,-⟩:=(T.2 x).1 hx;exact ⟨j,h1,I⟩
 rw [z] at E hmN;simp only [List.length_cons] at E;obtain ⟨p0,p1,p2,pf⟩:=S.cells;obtain ⟨-,-,o,rfl,⟨cur,hcur,hcs⟩,C⟩:=id S.ready;have c0:=C 0 (by simp)
 simp only [List.getD_cons_zero,Nat.add_zero] at c0;have hcR:=S.ready.1;have hcR2:=S.ready.2.1;simp only [List.length_cons] at hcR p2;have hql:=S.ql;have hgl:=S.ready.lt;have hV:=S.ready.tail;have v:Hid (QS (w.setCell ⟨q,2,none⟩ (.slice (if H=1 then some ⟨gR,o,none⟩ else some ⟨gR,o+1,none⟩) R0.length (H-1))) B q gM gU N M UV (fun j=>bL Nn j N) gR (if H=1 then some ⟨gR,o,none⟩ else some ⟨gR,o+1,none⟩) (H-1) R0):=S.setR (zS) (eV _ _) hV (Or.inl rfl) hB
 have HM:Hid (∀ j,j<N→M j=(gB Nn (ay Nn k) m 0 j:Int)):=fun j hj=>by
  rw [hM j hj];unfold gB
  simp
 have HRI:=aa hRI;have HW:=aa hB;have s:Hid (sw q gM gR w (w.setCell ⟨q,2,none⟩ (.slice (if H=1 then some ⟨gR,o,none⟩ else some ⟨gR,o+1,none⟩) R0.length (H-1)))):=rv (sw.refl _ _ _ _) (Or.inl rfl)
 obtain ⟨rl,hrl⟩:=ax R0.length;have HRl:=aa hrl;rw [hrl] at E p2 hcR v s;have hrI:(rl:Int)+1≤3000:=by omega
 have hcRI:(rl:Int)+1≤(H:Int):=by omega
 have hcR1:1≤H:=by omega
 clear hV C hcur hcs S hM T hRI hrl
 go_enter Tryz.func97,Tryz.ntmps97
 go_upto_region 2 with fail
 go_cut [3] from 8 (fun s3 wx=>s3=.int .i64 m∧∃ A1 c1,QS wx B q gM gU N M UV (fun j=>bL Nn j N) gR A1 c1 R0∧sw q gM gR w wx)
 case first =>
  by_cases hc1:H=1
  ·rw [if_pos hc1] at v s
   subst hc1;have hr0:rl=0:=by omega
   subst hr0;go_wp2_with fail;go_meet;exact ⟨rfl,_,_,v.out,s.out⟩
  rw [if_neg hc1] at v s;go_wp2_with fail;go_meet;exact ⟨rfl,_,_,v.out,s.out⟩
 case rest =>
 obtain ⟨rfl,A1,c1,f,hF1⟩:=hcut;obtain ⟨w1,rfl⟩:∃ w1:World,w1=wc:=⟨_,rfl⟩;obtain ⟨t,ht⟩:=ax ((bL Nn m N).length);have HT:=aa ht;have htN:t≤N:=by rw [←ht];exact zm _ _ _
 obtain ⟨Au,cu,hUV⟩:∃ A c,UV m=.slice A (bL Nn m N).length c:=by
  obtain ⟨A',c',e,-⟩:=cE (f.own m hmN);exact ⟨A',c',e⟩
 have HUs:Hid (∀ w' M' gR' AR' a RL',QS w' B q gM gU N M' UV (fun j=>bL Nn j N) gR' AR' a RL'→w'.cell? ⟨gU,m,none⟩=some (.slice Au t cu)∧aY w' Au cu (bL Nn m N)):=fun w' M' gR' AR' a RL' h=>by
  have I:=h.users hmN hUV;rw [ht] at I;exact I
 have HStp:Hid (∀ i,i<t→∃ u:Nat,(bL Nn m N).getD i 0=(u:Int)∧u<N∧gB Nn (ay Nn k) m i u=eN Nn (ay Nn k) u∧1≤eN Nn (ay Nn k) u∧eN Nn (ay Nn k) u≤12∧gB Nn (ay Nn k) m (i+1) u+1=eN Nn (ay Nn k) u∧(∀ j,j≠u→gB Nn (ay Nn k) m (i+1) j=gB Nn (ay Nn k) m i j)∧∀ R,kr Nn (ay Nn k) m i R→(u:Int)∉R∧(eN Nn (ay Nn k) u=1→kr Nn (ay Nn k) m (i+1) (rz R u))∧(eN Nn (ay Nn k) u≠1→kr Nn (ay Nn k) m (i+1) R)):=fun i hi=>by
  obtain ⟨u,e1,e2,e3,e4,e5,e6,e7⟩:=Fz hr hmo (i:=i) (by rw [z,ht];exact hi)
  rw [z] at e1 e2;exact ⟨u,e1,e2,e3,e4,zV (Ic _ _ _) (hl u (by rw [z];exact e2)),e5,e6,e7⟩
 have HRn:Hid (∀ i R,kr Nn (ay Nn k) m i R→R.length≤3000∧R.Pairwise (· < ·)):=fun i R h=>by
  have I:=rV (Nn:=Nn) h.1 fun x hx=>by obtain ⟨j,h1,I,-⟩:=(h.2 x).1 hx;exact ⟨j,h1,I⟩
  exact ⟨by omega,h.1⟩
 have W:Hid ((∀ j,j<N→gB Nn (ay Nn k) m t j=eN Nn (ay Nn (k+1)) j)∧∀ R,kr Nn (ay Nn k) m t R→re Nn (ay Nn (k+1)) R):=by
  obtain ⟨h1,I⟩:=G0 hr (k:=k) hmo;rw [z,ht] at h1 I;rw [hon];exact ⟨h1,I⟩
 have HOn:=aa hon;obtain ⟨-,k1,-,-⟩:=f.cells;have hq1:=f.ql;have hg1:=f.hU.lt;obtain ⟨kU,-⟩:=HUs.out w1 _ _ _ _ _ f;have HS0:Hid (∃ M' gR' AR' a RL',QS w1 B q gM gU N M' UV (fun j=>bL Nn j N) gR' AR' a RL'∧(∀ j,j<N→M' j=(gB Nn (ay Nn k) m 0 j:Int))∧kr Nn (ay Nn k) m 0 RL'∧(gR'=gR∨w.heap.size≤gR')∧sw q gM gR w w1):=⟨M,gR,A1,c1,R0,f,HM.out,HRI.out,Or.inl rfl,hF1⟩
 have hmI:(m:Int)<(N:Int):=by omega
 have hNI:(N:Int)≤3000:=by omega
 have htI:(t:Int)≤3000:=by omega
 clear f hF1 ht hUV hr hl hN hc hmo hon p0 p1 p2 pf c0;go_wp2_with fail;clear kU k1
 go_loopg [30] t (fun gg s30 wr => ∃ (i:Nat),i≤t∧gg=t-i∧s30=.int .i64 i∧Hid (∃ M' gR' AR' a RL',QS wr B q gM gU N M' UV (fun j=>bL Nn j N) gR' AR' a RL'∧(∀ j,j<N→M' j=(gB Nn (ay Nn k) m i j:Int))∧kr Nn (ay Nn k) m i RL'∧(gR'=gR∨w.heap.size≤gR')∧sw q gM gR w wr))
 case atStart=>exact ⟨0,zU,rfl,rfl,HS0⟩
 case round =>
  obtain ⟨i,hi,rfl,rfl,HSt⟩:=hrel
  by_cases hlt:i<t
  ·have hii:(i:Int)<(t:Int):=by omega
   obtain ⟨M',gR',AR',a,RL',d,p,r,D,n⟩:=HSt.out;obtain ⟨u,e1,e2,e3,e4,e12,e5,e6,e7⟩:=HStp.out i hlt;obtain ⟨hnR,hr1,hr2⟩:=e7 RL' r;obtain ⟨V,hri⟩:=HRn.out i RL' r;obtain ⟨-,hIu⟩:=HUs.out wr _ _ _ _ _ d;obtain ⟨hcS,-,hS0 | ⟨bs,cs,fr,rfl,hbS,hcl⟩⟩:=hIu
   ·have:=HT.out;rw [hS0] at this;simp at this;omega
   have cx:=hcl i (by rw [HT.out];exact hlt)
   have hbs:bs<wr.heap.size:=(zY hbS).1;rw [HT.out] at hcS;rw [e1] at cx;have hcSI:(t:Int)≤(cu:Int):=by omega
   have huI:(u:Int)<(N:Int):=by omega
   obtain ⟨q0,-,q2,qf⟩:=d.cells;have hqr:=d.ql;have cm:wr.cell? ⟨gM,u,none⟩=some (.int .i64 (M' u)):=d.hM.cell e2;have fm:=d.hM.frozen u;have hgm:=d.hM.lt;rw [p u e2,e3] at cm;have hlenW:w.heap.size≤wr.heap.size:=n.size;obtain ⟨mI,F⟩:∃ mI:Int,((eN Nn (ay Nn k) u:Nat):Int)=mI:=⟨_,rfl⟩;rw [F] at cm;have hm1:1≤mI:=by omega
   have hm12:mI≤12:=by omega
   obtain ⟨wA,G⟩:=ax (wr.setCell ⟨gM,u,none⟩ (.int .i64 (mI-1)));have b:QS wA B q gM gU N (fun j=>if j=u then mI-1 else M' j) UV (fun j=>bL Nn j N) gR' AR' a RL':=by rw [←G];exact d.setM u (mI-1)
   have Q:∀ j,j<N→(fun j=>if j=u then mI-1 else M' j) j=(gB Nn (ay Nn k) m (i+1) j:Int):=fun j hj=>by
    by_cases e:j=u
    ·show (if j=u then mI-1 else M' j)=_
     rw [if_pos e,e]
     omega
    show (if j=u then mI-1 else M' j)=_
    rw [if_neg e,p j hj,e6 j e]
   have O:sw q gM gR w wA:=by rw [←G];exact rv n (Or.inr (Or.inl rfl))
   obtain ⟨a0,-,a2,af⟩:=b.cells;have hqA:=b.ql;have cmA:wA.cell? ⟨gM,u,none⟩=some (.int .i64 (mI-1)):=by
    have h:=b.hM.cell e2
    simpa using h
   have hgA:=b.hM.lt;have hgRl:=b.ready.lt;have K:=aa b;have HMA:=aa Q;have HFA:=aa O;have hszA:wA.heap.size=wr.heap.size:=by rw [←G];simp
   obtain ⟨rl2,l⟩:=ax RL'.length;have L:=aa l
   by_cases Y:mI=1
   ·have HRn1:=aa (hr1 (by omega))
    have U:=Ab AR' a gR' RL' (u:Int) wA V b.ready hri;have Z:Hid (∀ w5 vb,Bl wA w5→w5.heap[vb]?=some (.cells #[.int .i64 (u:Int)] 3 (0,0))→vb≠gR'→Calls Tryz.prog 126 #[.slice AR' RL'.length a,.int .i64 (RL'.countP (· < (u:Int)):Nat),.slice (some ⟨vb,0,none⟩) 1 1] w5 fun e w'=>zq w5 gR' (RL'.countP (· < (u:Int))) RL' u e w'):=fun w5 vb h5 hv hne=>DG AR' a gR' (RL'.countP (· < (u:Int))) vb RL' u w5 V List.countP_le_length (b.ready.later h5) hv hne
    rw [l] at U Z a2 q2;obtain ⟨cp,hcp⟩:=ax (RL'.countP (· < (u:Int)));have HCp:Hid (RL'.take cp ++ (u:Int) :: RL'.drop cp=rz RL' u):=by show _=_;unfold rz;rw [hcp]
    rw [hcp] at U Z;subst Y;have hz0:(1:Int)-1=0:=rfl;rw [hz0] at G cmA;clear d p r n e1 e3 e4 e12 e5 e6 e7 hnR hr1 hr2 hcl hbS b Q O hri V F l hcp hz0;go_wp2_with fail;refine U.mono ?_;rintro e wB ⟨⟨bb,rfl⟩,g⟩;have HBB:=aa g;obtain ⟨b0,-,b2,bf⟩:=(K.out.later g).cells;rw [L.out] at b2;have hqB:=(K.out.later g).ql;obtain ⟨wC,hwC⟩:=ax (wB.alloc (.cells #[.int .i64 (u:Int)] 3));have y:Bl wB wC:=by rw [←hwC];go_grown
    have hvC:wC.heap[wB.heap.size]?=some (.cells #[.int .i64 (u:Int)] 3 (0,0)):=by rw [←hwC];exact heap_alloc_new ..
    have X:=Z.out wC wB.heap.size (ae g y) hvC (by have:=g.size;omega)
    have J:=aa (ae g y);have d2:=aL y hqB b2;have hqC:q<wC.heap.size:=zW hqB y.size;clear g U G cm cmA a0 a2 q0 q2 hvC y;go_wp2_with fail;refine X.mono ?_;rintro e w6 ⟨g6,A6,c6,rfl,hV6,hg6,P⟩;obtain ⟨z2,zf,hq6⟩:=K.out.qin J.out P;rw [L.out] at z2;have hsC:=J.out.size;have hlen6:(RL'.take cp ++ (u:Int) :: RL'.drop cp).length=rl2+1:=by
     rw [HCp.out];unfold rz;rw [kz List.countP_le_length,L.out]
    have Lt:Hid (∃ M' gR'' AR' a RL',QS (w6.setCell ⟨q,2,none⟩ (.slice A6 (rl2+1) c6)) B q gM gU N M' UV (fun j=>bL Nn j N) gR'' AR' a RL'∧(∀ j,j<N→M' j=(gB Nn (ay Nn k) m (i+1) j:Int))∧kr Nn (ay Nn k) m (i+1) RL'∧(gR''=gR∨w.heap.size≤gR'')∧sw q gM gR w (w6.setCell ⟨q,2,none⟩ (.slice A6 (rl2+1) c6))):=by
     have hQ6:=K.out.setR J.out P hV6 (hg6.imp id fun h=>by omega) (by have:=HW.out;omega)
     rw [hlen6,HCp.out] at hQ6;refine ⟨_,g6,A6,c6,_,hQ6,HMA.out,HRn1.out,?_,rv (Ah (Af HFA.out J.out) P (D.imp id fun h=>h)) (Or.inl rfl)⟩
     rcases hg6 with h | h
     ·rw [h];exact D
     exact Or.inr (by omega)
    rw [L.out];clear X hwC d2 hV6 hg6 P b0 b2 bf;go_wp2_with fail
    go_roundg (t-(i+1))
    case measure=>omega
    case rel=>exact ⟨i+1,by omega,rfl,by go_num,Lt⟩
   have hb1:((mI-1) == 0)=false:=by
    rw [beq_eq_false_iff_ne]
    omega
   have Lt:Hid (∃ M' gR'' AR' a RL',QS wA B q gM gU N M' UV (fun j=>bL Nn j N) gR'' AR' a RL'∧(∀ j,j<N→M' j=(gB Nn (ay Nn k) m (i+1) j:Int))∧kr Nn (ay Nn k) m (i+1) RL'∧(gR''=gR∨w.heap.size≤gR'')∧sw q gM gR w wA):=⟨_,gR',AR',a,RL',b,Q,hr2 (by omega),D,O⟩
   clear d p r n e1 e3 e4 e12 e5 e6 e7 hnR hr1 hr2 hcl hbS b Q O hri V F l Y;go_wp2_with fail
   go_roundg (t-(i+1))
   case measure=>omega
   case rel=>exact ⟨i+1,by omega,rfl,by go_num,Lt⟩
  have hie:i=t:=by omega
  subst hie;go_wp2_with fail;go_ret;obtain ⟨M',gR',AR',a,RL',d,p,r,D,n⟩:=HSt.out;exact ⟨m,rfl,by omega,HOn.out,M',gR',AR',a,RL',d,fun j hj=>by rw [p j hj,W.out.1 j hj],W.out.2 _ r,D,n⟩
end Go.Proofs.YthlhjjabkgpenaaGreatDoor
