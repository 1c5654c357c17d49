/- What newQueue of packa -/
import Derived.Test.YtompdcaikmekkaaGreatDoorJHBH
import Derived.Test.YtompdcaikmekkaaGreatDoorJHBI
namespace Go.Proofs.YtompdcaikmekkaaGreatDoor
open ChangeShapes WideShapes ChangeAt RowKit
set_option maxRecDepth 99999
set_option maxHeartbeats 0
theorem m7 (q g n:Nat) (D:Nat→Dm) (X:Nat→AL) (w:World) (a:cI w q g n D X):Calls Tryz.prog 75 #[.pointer (some ⟨q,0,none⟩)] w fun e w'=>e=.returned (.int .i64 (prodN D n:Nat))∧w'=w:=by
 obtain ⟨b,c,d⟩:=a.cells;generalize prodN D n=N at *;clear a
 go_enter Tryz.func75,Tryz.ntmps75
 go_wp2_with fail;go_ret;exact ⟨rfl,rfl⟩
theorem AJ {w w3:World} {B gM gU N:Nat} {UV:Nat→Value} {UL:Nat→List Int} (hU:UM w3 B gU N UV UL) (d:eR w3 gM N 3 fun _=>.int .i64 0) (c:Bl w w3) (b:w.heap.size≤B) (e:w.heap.size≤gM) (f:∀ j,j<N→(UV j).ownBlock≠some gM) :
  QM (w3.alloc (.cells #[.slice (some ⟨gM,0,none⟩) N N,.slice (some ⟨gU,0,none⟩) N N,.slice none 0 0] 150)) w.heap.size w3.heap.size gM gU N (fun _=>0) UV UL (.slice none 0 0) []∧Bl w (w3.alloc (.cells #[.slice (some ⟨gM,0,none⟩) N N,.slice (some ⟨gU,0,none⟩) N N,.slice none 0 0] 150)):=by
 have a:Bl w3 (w3.alloc (.cells #[.slice (some ⟨gM,0,none⟩) N N,.slice (some ⟨gU,0,none⟩) N N,.slice none 0 0] 150)):=by go_grown
 refine ⟨⟨heap_alloc_new _ _,d.same (a.block _ d.lt),hU.hU.same (a.block _ hU.hU.lt),fun j g=>ao (nJ (hU.own j g) b) a,World.ownsRow_nil _ _ _ _,f,hU.dU,fun h=>(by cases h),fun _ _ _ h=>(by cases h),c.size,e,zV b hU.lU⟩,ae c a⟩
theorem FS {w w' w4:World} {gU N:Nat} {Nn:List (List Int)} (d:DH w4 gU N N Nn w') (g:w.heap.size≤w'.heap.size) (b:Bl w w4) :
  ∃ UV,QM ((w4.alloc (.cells (madeCells #[.int .i64 0] N) 3)).alloc (.cells #[.slice (some ⟨w4.heap.size,0,none⟩) N N,.slice (some ⟨gU,0,none⟩) N N,.slice none 0 0] 150)) w.heap.size (w4.heap.size+1) w4.heap.size gU N (fun _=>0) UV (fun j=>bC Nn j N) (.slice none 0 0) []∧Bl w ((w4.alloc (.cells (madeCells #[.int .i64 0] N) 3)).alloc (.cells #[.slice (some ⟨w4.heap.size,0,none⟩) N N,.slice (some ⟨gU,0,none⟩) N N,.slice none 0 0] 150)):=by
 obtain ⟨UV,c,i⟩:=d;have a:Bl w4 (w4.alloc (.cells (madeCells #[.int .i64 0] N) 3)):=by go_grown
 have h:=AJ (c.later a) (eR.made w4 N 3 (.int .i64 0)) (ae b a) g b.size fun j f e=>by
  have:=(bO (c.own j f) e).2.1
  omega
 rw [show (w4.alloc (.cells (madeCells #[.int .i64 0] N) 3)).heap.size=w4.heap.size+1 from by simp] at h
 exact ⟨UV,h⟩
theorem CJ {w w' w4:World} {gM gU N:Nat} {Nn:List (List Int)} (a:DH w4 gU N N Nn w') (h:w.heap.size≤w'.heap.size) (d:Bl w w4) (b:eR w' gM N 3 fun _=>.int .i64 0) (c:w.heap.size≤gM) :
  ∃ UV,QM (w4.alloc (.cells #[.slice (some ⟨gM,0,none⟩) N N,.slice (some ⟨gU,0,none⟩) N N,.slice none 0 0] 150)) w.heap.size w4.heap.size gM gU N (fun _=>0) UV (fun j=>bC Nn j N) (.slice none 0 0) []∧Bl w (w4.alloc (.cells #[.slice (some ⟨gM,0,none⟩) N N,.slice (some ⟨gU,0,none⟩) N N,.slice none 0 0] 150)):=by
 obtain ⟨UV,a,f⟩:=a;exact ⟨UV,AJ a (b.same (f.block _ b.lt)) d h c fun j g e=>by
  have i:=(bO (a.own j g) e).1;have k:=b.lt
  omega⟩
def GK (w:World) (q gM gU N k:Nat) (Nn:List (List Int)) (w1:World):Prop := ∃ M UV R,QM w w1.heap.size q gM gU N M UV (fun j=>bC Nn j N) R (selTo (fun j=>(Nn.getD j []).isEmpty) k)∧(∀ j,j<k→M j=((Nn.getD j []).length:Int))∧Bl w1 w
def JE (w:World) (q gM gU N k:Nat) (Nn:List (List Int)) (w1:World):Prop := ∃ M UV R,QM w w1.heap.size q gM gU N M UV (fun j=>bC Nn j N) R (selTo (fun j=>(Nn.getD j []).isEmpty) k)∧(∀ j,j<k+1→M j=((Nn.getD j []).length:Int))∧Bl w1 w
section
variable {w w2 w1:World} {q gM gU N k tl:Nat} {Nn:List (List Int)}
theorem GK.put (h:GK w q gM gU N k Nn w1) (b:Bl w w2) (f:(Nn.getD k []).length=tl):JE (w2.setCell ⟨gM,k,none⟩ (.int .i64 (tl:Int))) q gM gU N k Nn w1:=by
 obtain ⟨M,UV,R,a,d,c⟩:=h;refine ⟨fun j=>if j=k then (tl:Int) else M j,UV,R,(a.later b).setM k (tl:Int),fun j g=>?_,(ae c b).setCell a.lM _⟩
 by_cases e:j=k
 ·show (if j=k then (tl:Int) else M j)=_
  rw [if_pos e,e,f]
 show (if j=k then (tl:Int) else M j)=_
 rw [if_neg e];exact d j (by omega)
theorem JE.done (h:JE w q gM gU N k Nn w1) (b:(Nn.getD k []).length≠0):GK w q gM gU N (k+1) Nn w1:=by
 obtain ⟨M,UV,R,f,e,d⟩:=h;refine ⟨M,UV,R,?_,e,d⟩;have c:selTo (fun j=>(Nn.getD j []).isEmpty) (k+1)=selTo (fun j=>(Nn.getD j []).isEmpty) k:=by
  rw [selTo];have:(Nn.getD k []).isEmpty=false:=by
   generalize Nn.getD k []=T at b;cases T with
   | nil=>exact absurd rfl b
   | cons a r=>rfl
  rw [this]
  simp
 rw [c];exact f
theorem JE.free (h:JE w q gM gU N k Nn w1) (F:(Nn.getD k []).length=0) :
  ∃ AO ln i Ly,w.cell? ⟨q,2,none⟩=some (.slice AO ln i)∧w.frozen? ⟨q,2,none⟩=false∧ln≤k∧w.ownsRow w1.heap.size 3 1 (.slice AO ln i) ln (aF Ly)∧(∀ (w5 w6:World),Bl w w5→w5.grownBy w6 (Value.slice AO ln i).ownBlock→w6.cell? ⟨q,2,none⟩=some (.slice AO ln i)∧w6.frozen? ⟨q,2,none⟩=false∧q<w6.heap.size) ∧
  ∀ (w5 w6:World) (v:Value),Bl w w5→w6.ownsRow w1.heap.size 3 1 v (ln+1) (aF Ly ++ [.int .i64 (k:Int)])→w5.grownBy w6 (Value.slice AO ln i).ownBlock→(v.ownBlock=(Value.slice AO ln i).ownBlock∨v.ownBlock=some w5.heap.size)→GK (w6.setCell ⟨q,2,none⟩ v) q gM gU N (k+1) Nn w1:=by
 obtain ⟨M,UV,R,f,D,l⟩:=h;have n:=f.ready;obtain ⟨AO,i,p⟩:∃ AO i,R=.slice AO (selTo (fun j=>(Nn.getD j []).isEmpty) k).length i:=by
  rcases n.2 with ⟨s,B⟩ | ⟨g,cap,r,s,-⟩
  ·exact ⟨none,0,by rw [s,B]⟩
  exact ⟨_,_,s⟩
 have y:∀ b,R.ownBlock=some b→b≠q∧b≠gU:=fun b o=>by
  obtain ⟨-,-,r,G⟩:=bO n o;exact f.off G
 have u:∀ (w5 w6:World),Bl w w5→w5.grownBy w6 R.ownBlock→w6.heap[q]?=w.heap[q]?:=fun w5 w6 c d=>(d.block q (zW f.ql c.size) (fun e=>(y q e.symm).1 rfl)).trans (c.block q f.ql)
 refine ⟨AO,_,i,_,by rw [←p];exact f.cells.2.2.1,f.cells.2.2.2,Il _ _,by rw [←p];exact n,fun w5 w6 c d=>?_,fun w5 w6 v c C d m=>?_⟩
 ·rw [←p] at d ⊢
  have z:=u w5 w6 c d;refine ⟨(World.cell?_of_block (a:=⟨q,2,none⟩) z).trans f.cells.2.2.1,(World.frozen?_of_block (a:=⟨q,2,none⟩) z).trans f.cells.2.2.2,?_⟩;have:=f.ql;have:=c.size;have:=d.size
  omega
 rw [←p] at d m;have x:(selTo (fun j=>(Nn.getD j []).isEmpty) k ++ [(k:Int)]).length=(selTo (fun j=>(Nn.getD j []).isEmpty) k).length+1:=by rw [List.length_append];rfl
 have E:=f.pushR (L:=selTo (fun j=>(Nn.getD j []).isEmpty) k ++ [(k:Int)]) (v:=v) (H:=w5.heap.size) c d (by rw [x,mapI_snoc];exact C) m c.size
 have t:Bl w1 w6:=⟨d.os.trans (ae l c).os,d.tape.trans (ae l c).tape,d.output.trans (ae l c).output,zV (ae l c).size d.size,fun b o=>(d.block b (zW o (ae l c).size) (fun e=>by have:=(bO n e.symm).1;omega)).trans ((ae l c).block b o)⟩
 refine ⟨M,UV,v,?_,D,t.setCell f.lq _⟩;have A:selTo (fun j=>(Nn.getD j []).isEmpty) (k+1)=selTo (fun j=>(Nn.getD j []).isEmpty) k ++ [(k:Int)]:=by
  rw [selTo];rw [List.eq_nil_of_length_eq_zero F]
  simp
 rw [A];exact E
end
theorem Fi (l g n:Nat) (D:Nat→Dm) (X:Nat→AL) (w:World) (K:dH D n) (B:(am D n).2.2=0) (Z:cI w l g n D X) :
  Calls Tryz.prog 74 #[.pointer (some ⟨l,0,none⟩)] w fun e w' => ∃ q gM gU,e=.returned (.tuple #[.pointer (some ⟨q,0,none⟩),.nilIface])∧GK w' q gM gU (prodN D n) (prodN D n) (rowsL D n) w:=by
 obtain ⟨i0,hi0,hz0,hz1,hz2⟩:=info_parts Tryz.infoInt;obtain ⟨hn1,hn4,hp3,hd⟩:=au B;have p:Hid (∀ w',Bl w w'→Calls Tryz.prog 75 #[.pointer (some ⟨l,0,none⟩)] w' fun e w''=>e=.returned (.int .i64 (prodN D n:Nat))∧w''=w'):=fun w' t=>m7 l g n D X w' (Z.later t)
 have i:Hid (∀ w',Bl w w'→Calls Tryz.prog 96 #[.pointer (some ⟨l,0,none⟩)] w' fun e w''=>(∃ gU,e=.returned (.slice (some ⟨gU,0,none⟩) (prodN D n) (prodN D n))∧DH w'' gU (prodN D n) (prodN D n) (rowsL D n) w')∧Bl w' w''):=fun w' t=>by
  refine (rN l g n D X w' K B (Z.later t)).mono ?_;rintro e w'' ⟨gU,rfl,hU⟩;exact ⟨⟨gU,rfl,hU⟩,hU.choose_spec.2⟩
 have o:Hid (∀ k w',k<prodN D n→Bl w w'→Calls Tryz.prog 113 #[.pointer (some ⟨l,0,none⟩),.int .i64 k] w' fun e w''=>(∃ A' s,e=.returned (.tuple #[.slice A' ((rowsL D n).getD k []).length s,.nilIface]))∧Bl w' w''):=fun k w' S t=>by
  refine (yg l g n D X k w' K B S (Z.later t)).mono ?_;rintro e w'' ⟨⟨A',s,T,rfl,hI,hT,-,hA'⟩,hb⟩;have hTe:T=(rowsL D n).getD k []:=by rw [lC K B hT,lx S]
  rw [←hTe];exact ⟨⟨A',s,rfl⟩,hb⟩
 have r:Hid (∀ k,k<prodN D n→((rowsL D n).getD k []).length≤12):=fun k S=>(fB K B S).2.1
 obtain ⟨Nn,J⟩:=aA (rowsL D n);rw [J] at o r i ⊢;obtain ⟨N,hN⟩:=aA (prodN D n);rw [hN] at p o r i hp3 ⊢;have hNI:(N:Int)≤3000:=by omega
 have U:=run_make_row' (P:=Tryz.prog) 26 3 (.int .i64 0) 8 Tryz.underlying26 Tryz.infoInt rfl .i64 .i64 N (by omega) (by omega)
 clear Z B K hd J hN
 go_enter Tryz.func74,Tryz.ntmps74
 go_upto_region 1 with fail
 go_cut [4] from 8 (fun s4 wx => ∃ q gM gU UV,s4=.pointer (some ⟨q,0,none⟩)∧QM wx w.heap.size q gM gU N (fun _=>0) UV (fun j=>bC Nn j N) (.slice none 0 0) []∧Bl w wx)
 case first =>
  go_region_law ((first
   | (go_simp;refine (p.out _ (by go_grown)).mono ?_;rintro e w3 ⟨rfl,rfl⟩)
   | (go_simp;refine (i.out _ (by go_grown)).mono ?_;rintro e w4 ⟨⟨gU,rfl,O⟩,x⟩;have I:=ae (W0:=w) (by go_grown) x;have hs4:=x.size;clear x)))
  all_goals go_wp2_with fail
  all_goals go_meet
  all_goals first
   | (obtain ⟨UV,h1,h2⟩:=FS (w:=w) O (by first | exact zT | simp) I;exact ⟨_,_,_,UV,rfl,h1,h2⟩)
   | (obtain ⟨UV,h1,h2⟩:=CJ (w:=w) O (by first | exact zT | simp) I (eR.made w N 3 (.int .i64 0)) (zT);exact ⟨_,_,_,UV,rfl,h1,h2⟩)
 case rest =>
 obtain ⟨q,gM,gU,UV,rfl,C,u⟩:=hcut;obtain ⟨w1,rfl⟩:∃ w1:World,w1=wc:=⟨_,rfl⟩;have KH:Hid (GK w1 q gM gU N 0 Nn w):=by
  exact ⟨fun _=>0,UV,.slice none 0 0,C,fun j hj=>absurd hj (Nat.not_lt_zero _),u⟩
 have V:=p.out w1 u;clear U C u i;go_wp2_with fail;refine V.mono ?_;rintro e w2 ⟨rfl,rfl⟩;clear V;go_wp2_with fail
 go_loopg [17] N (fun gg s17 wr => ∃ (k:Nat),k≤N∧gg=N-k∧s17=.int .i64 k∧Hid (GK wr q gM gU N k Nn w))
 case atStart=>exact ⟨0,zU,rfl,rfl,KH⟩
 case round =>
  obtain ⟨k,S,rfl,rfl,Y⟩:=hrel
  by_cases y:k<N
  ·have hki:(k:Int)<(N:Int):=by omega
   have KG:Hid (Bl w wr):=by obtain ⟨-,-,-,-,-,h⟩:=Y.out;exact h
   have z:=o.out k wr y KG.out;have h12:=r.out k y;obtain ⟨tl,A⟩:=aA ((Nn.getD k []).length);have f:=aa A;rw [A] at z h12;have htI:(tl:Int)≤12:=by omega
   clear A;go_wp2_with fail;refine z.mono ?_;rintro e w3 ⟨⟨A2,c2,rfl⟩,v⟩;have c:=aa (Y.out.put v f.out);obtain ⟨m0,m1,mf,mq,mg⟩:w3.cell? ⟨q,0,none⟩=some (.slice (some ⟨gM,0,none⟩) N N)∧w3.cell? ⟨gM,k,none⟩≠none∧w3.frozen? ⟨gM,k,none⟩=false∧q<w3.heap.size∧gM<w3.heap.size:=by
    obtain ⟨M,UV,R,C,-,-⟩:=Y.out;have d:=C.later v;exact ⟨d.cells.1,by rw [d.hM.cell y];simp,d.hM.frozen k,d.ql,d.hM.lt⟩
   obtain ⟨mv,m1'⟩:=Option.ne_none_iff_exists'.1 m1;obtain ⟨wr2,W⟩:=aA (w3.setCell ⟨gM,k,none⟩ (.int .i64 (tl:Int)));rw [W] at c;clear z v m1
   by_cases G:tl=0
   ·obtain ⟨AO,ln,cO,Ly,cR,hfR,hln,hO,L,H⟩:=c.out.free (by rw [f.out];exact G)
    have HO:=aa hO;have F:=aa L;have E:=aa H;obtain ⟨hql,hBs⟩:q<wr2.heap.size∧w.heap.size≤wr2.heap.size:=by
     obtain ⟨M,UV,R,C,-,t⟩:=c.out;exact ⟨C.ql,t.size⟩
    have hlnI:ln≤3000:=by omega
    have KI:((tl:Int) == 0)=true:=by simp [G]
    clear hO L H c f G
    go_wp2_with (at_builtin;refine wpList_append_own_at _ rfl _ _ 26 rfl w.heap.size 3 i0 (.int .i64 0) 1 8 Tryz.underlying26 hi0 hz0 hz1 hz2 rfl (by decide) _ _ _ rfl (HO.out.alloc _) ⟨wr2.heap.size,0,none⟩ 1 1 [.int .i64 k] rfl rfl bw dF (by unfold maxLen;omega) (by omega) (by simp;omega) ?_)
    intro v' w6 b a _ Q;obtain ⟨y1,y2,y3⟩:=F.out _ _ (by go_grown) a
    obtain ⟨A',s,rfl⟩:∃ A' s,v'=.slice A' (ln+1) s:=by
     rcases b.2 with ⟨-,h⟩ | ⟨g',s,cur,h,-⟩
     ·omega
     exact ⟨_,_,h⟩
    have m:=aa (E.out _ _ _ (by go_grown) b a (Q.imp id fun h=>by rw [h];simp))
    clear b a Q;go_wp2_with fail
    go_roundg (N-(k+1))
    case measure=>omega
    case rel=>exact ⟨k+1,by omega,rfl,by go_num,m⟩
   have KI:((tl:Int) == 0)=false:=by simpa using G
   have m:Hid (GK wr2 q gM gU N (k+1) Nn w):=c.out.done (by rw [f.out];exact G)
   clear c;go_wp2_with fail
   go_roundg (N-(k+1))
   case measure=>omega
   case rel=>exact ⟨k+1,by omega,rfl,by go_num,m⟩
  have hke:k=N:=by omega
  subst hke;go_wp2_with fail;go_returns;exact ⟨q,gM,gU,rfl,Y.out⟩
structure QS (w:World) (B q gM gU N:Nat) (M:Nat→Int) (UV:Nat→Value) (UL:Nat→List Int) (gR:Nat) (AR:Option Addr) (cR:Nat) (RL:List Int):Prop where
 hq:w.heap[q]?=some (.cells #[.slice (some ⟨gM,0,none⟩) N N,.slice (some ⟨gU,0,none⟩) N N,.slice AR RL.length cR] 150 (0,0))
 hM:eR w gM N 3 fun j=>.int .i64 (M j)
 hU:eR w gU N 26 UV
 own:∀ j,j<N→w.ownsRow B 3 1 (UV j) (UL j).length (aF (UL j))
 ready:g8 w gR AR cR RL
 dM:∀ j,j<N→(UV j).ownBlock≠some gM
 dR:gR≠gM
 dRU:∀ j,j<N→(UV j).ownBlock≠some gR
 lq:B≤q
 lM:B≤gM
 lU:B≤gU
 lR:B≤gR
theorem QS.of {w:World} {B q gM gU N:Nat} {M:Nat→Int} {UV:Nat→Value} {UL:Nat→List Int} {R:Value} {RL:List Int} (h:QM w B q gM gU N M UV UL R RL) (hl:0<RL.length):∃ gR cR,QS w B q gM gU N M UV UL gR (some ⟨gR,0,none⟩) cR RL:=by
 obtain ⟨gR,cR,hR,hB,hV⟩:=g8.own h.ready hl
 refine ⟨gR,cR,by rw [←hR];exact h.hq,h.hM,h.hU,h.own,hV,h.dM,fun e=>h.dR (by rw [hR,←e];rfl),fun j hj e=>h.dRU j hj gR (by rw [hR];rfl) e,h.lq,h.lM,h.lU,hB⟩
section
variable {w w':World} {B q gM gU N:Nat} {M:Nat→Int} {UV:Nat→Value} {UL:Nat→List Int} {gR:Nat} {AR:Option Addr} {cR:Nat} {RL:List Int}
theorem QS.ql (h:QS w B q gM gU N M UV UL gR AR cR RL):q<w.heap.size:=(zY h.hq).1
theorem QS.later (h:QS w B q gM gU N M UV UL gR AR cR RL) (a:Bl w w'):QS w' B q gM gU N M UV UL gR AR cR RL :=
 ⟨(a.block q h.ql).trans h.hq,h.hM.same (a.block _ h.hM.lt),h.hU.same (a.block _ h.hU.lt),fun j b=>ao (h.own j b) a,h.ready.later a,h.dM,h.dR,h.dRU,h.lq,h.lM,h.lU,h.lR⟩
theorem QS.keep (h:QS w B q gM gU N M UV UL gR AR cR RL) {r:Option Nat} (a:w.grownBy w' r) (d:r≠some q) (f:r≠some gM) (g:r≠some gU) (i:r≠some gR) (k:∀ j,j<N→∀ b,(UV j).ownBlock=some b→r≠some b):QS w' B q gM gU N M UV UL gR AR cR RL :=
 ⟨(a.block q h.ql (fun e=>d e.symm)).trans h.hq,h.hM.same (a.block _ h.hM.lt (fun e=>f e.symm)),h.hU.same (a.block _ h.hU.lt (fun e=>g e.symm)),fun j c=>iF (h.own j c) a (k j c),h.ready.same (a.block _ h.ready.lt (fun e=>i e.symm)),h.dM,h.dR,h.dRU,h.lq,h.lM,h.lU,h.lR⟩
theorem QS.cells (h:QS w B q gM gU N M UV UL gR AR cR RL):w.cell? ⟨q,0,none⟩=some (.slice (some ⟨gM,0,none⟩) N N)∧w.cell? ⟨q,1,none⟩=some (.slice (some ⟨gU,0,none⟩) N N)∧w.cell? ⟨q,2,none⟩=some (.slice AR RL.length cR)∧w.frozen? ⟨q,2,none⟩=false :=
 ⟨by simp [World.cell?,h.hq],by simp [World.cell?,h.hq],by simp [World.cell?,h.hq],by simp [World.frozen?,h.hq]⟩
theorem QS.off (h:QS w B q gM gU N M UV UL gR AR cR RL) {b:Nat} {a:Array Value} (c:w.heap[b]?=some (.cells a 3 (0,0))):b≠q∧b≠gU:=by
 refine ⟨fun e=>?_,h.hU.off c gX⟩
 rw [e,h.hq] at c
 simp at c
theorem QS.ne (h:QS w B q gM gU N M UV UL gR AR cR RL):q≠gM∧q≠gU∧gM≠gU∧gR≠q∧gR≠gU:=by
 obtain ⟨-,-,o,-,⟨b,c,-⟩,-⟩:=h.ready;have a:=h.off c;refine ⟨fun e=>?_,fun e=>?_,fun e=>?_,a.1,a.2⟩
 ·have a:=h.hq;rw [e,h.hM] at a;simp at a
 ·have a:=h.hq;rw [e,h.hU] at a;simp at a
 have a:=h.hM;unfold eR at a;rw [e,h.hU] at a;simp at a
theorem QS.ownOff (h:QS w B q gM gU N M UV UL gR AR cR RL) {j b:Nat} (e:j<N) (c:(UV j).ownBlock=some b):b≠q∧b≠gU:=by
 obtain ⟨-,-,a,d⟩:=bO (h.own j e) c;exact h.off d
theorem QS.users (h:QS w B q gM gU N M UV UL gR AR cR RL) {j:Nat} (a:j<N) {A:Option Addr} {c:Nat} (b:UV j=.slice A (UL j).length c):w.cell? ⟨gU,j,none⟩=some (.slice A (UL j).length c)∧aR w A c (UL j):=by
 refine ⟨by rw [←b];exact h.hU.cell a,?_⟩
 obtain ⟨A',f,e,d⟩:=bP (h.own j a);rw [b] at e;cases e;exact d
theorem QS.qin (h:QS w B q gM gU N M UV UL gR AR cR RL) {w5 w6:World} (b:Bl w w5) (c:w5.grownBy w6 (some gR)):w6.cell? ⟨q,2,none⟩=some (.slice AR RL.length cR)∧w6.frozen? ⟨q,2,none⟩=false∧q<w6.heap.size:=by
 obtain ⟨n1,n2,n3,n4,n5⟩:=h.ne;have e:w6.heap[q]?=w.heap[q]?:=(c.block q (zW h.ql b.size) (fun e=>n4 (by simpa using e.symm))).trans (b.block q h.ql)
 refine ⟨(World.cell?_of_block (a:=⟨q,2,none⟩) e).trans h.cells.2.2.1,(World.frozen?_of_block (a:=⟨q,2,none⟩) e).trans h.cells.2.2.2,?_⟩;have:=h.ql;have:=b.size;have:=c.size
 omega
theorem QS.setM (h:QS w B q gM gU N M UV UL gR AR cR RL) (m:Nat) (x:Int):QS (w.setCell ⟨gM,m,none⟩ (.int .i64 x)) B q gM gU N (fun j=>if j=m then x else M j) UV UL gR AR cR RL:=by
 obtain ⟨n1,n2,n3,n4,n5⟩:=h.ne;refine ⟨by rw [av _ _ _ _ _ n1];exact h.hq,?_,h.hU.same (av _ _ _ _ _ n3.symm),fun j a=>fd (h.own j a) (h.dM j a),h.ready.same (av _ _ _ _ _ h.dR),h.dM,h.dR,h.dRU,h.lq,h.lM,h.lU,h.lR⟩
 refine h.hM.set (f':=fun j=>.int .i64 (if j=m then x else M j)) fun j _=>?_
 by_cases e:j=m
 ·simp only [if_pos e]
 simp only [if_neg e]
theorem QS.setR (h:QS w B q gM gU N M UV UL gR AR cR RL) {w5 w6:World} {g' f:Nat} {A':Option Addr} {L:List Int} (i:Bl w w5) (m:w5.grownBy w6 (some gR)) (p:g8 w6 g' A' f L) (c:g'=gR∨w.heap.size≤g') (r:B≤w.heap.size):QS (w6.setCell ⟨q,2,none⟩ (.slice A' L.length f)) B q gM gU N M UV UL g' A' f L:=by
 obtain ⟨n1,n2,n3,n4,n5⟩:=h.ne;have a:∀ b,b<w.heap.size→b≠gR→w6.heap[b]?=w.heap[b]?:=fun b g l=>(m.block b (zW g i.size) (fun e=>l (by simpa using e))).trans (i.block b g)
 have o:g'≠q:=by
  rcases c with rfl | c
  ·exact n4
  have:=h.ql;omega
 refine ⟨?_,(h.hM.same (a _ h.hM.lt h.dR.symm)).same (av _ _ _ _ _ n1.symm),(h.hU.same (a _ h.hU.lt n5.symm)).same (av _ _ _ _ _ n2.symm),fun j d=>?_,p.same (av _ _ _ _ _ o),h.dM,?_,fun j d=>?_,h.lq,h.lM,h.lU,?_⟩
 ·have:=cH (k:=2) (v:=.slice A' L.length f) ((a q h.ql n4.symm).trans h.hq)
  simpa using this
 ·refine fd (iF (ao (h.own j d) i) m fun b g e=>h.dRU j d (by rw [e];exact g)) fun n=>(h.ownOff d n).1 rfl
 ·rcases c with rfl | c
  ·exact h.dR
  have:=h.hM.lt;omega
 ·rcases c with rfl | c
  ·exact h.dRU j d
  intro e;have:=(bO (h.own j d) e).2.1
  omega
 rcases c with rfl | c
 ·exact h.lR
 omega
theorem g8.tail {g o:Nat} {m:Int} {R:List Int} (h:g8 w g (some ⟨g,o,none⟩) cR (m :: R)):g8 w g (if cR=1 then some ⟨g,o,none⟩ else some ⟨g,o+1,none⟩) (cR-1) R:=by
 obtain ⟨f,l,o',i,⟨a,c,n⟩,b⟩:=h;cases i;simp only [List.length_cons] at f b
 by_cases e:cR=1
 ·rw [if_pos e]
  have k:R=[]:=List.eq_nil_of_length_eq_zero (by omega)
  subst k;exact ⟨zU,by omega,o,rfl,⟨a,c,by omega⟩,fun j d=>by simp at d⟩
 rw [if_neg e];refine ⟨by omega,by omega,o+1,rfl,⟨a,c,by omega⟩,fun j d=>?_⟩
 have:=b (j+1) (by omega)
 rw [show o+1+j=o+(j+1) by omega]
 rw [List.getD_cons_succ] at this;exact this
end
theorem sR {Nn:List (List Int)} {R:List Int} (h:R.Pairwise (· < ·)) (a:∀ x∈R,∃ j:Nat,x=j∧j<Nn.length):R.length≤Nn.length:=few _ _ (h.imp fun h=>by omega) fun x b=>by
 obtain ⟨j,rfl,c⟩:=a x b
 omega
end Go.Proofs.YtompdcaikmekkaaGreatDoor
