/-
  Small facts on two numbers that lie in a block (a cell of the program in a variable), on worlds that grew, and on Of a number that may be told.
-/
import Derived.Test.YtaodedckffjpgafGreatDoorJXAY
import Derived.Test.YtaodedckffjpgafGreatDoorJXBT
namespace Go.Proofs.YtaodedckffjpgafGreatDoor
open Go.ChangeShapes Go.WideShapes Go.ChangeAt Go.RowKit
theorem At.later {s:Nat} {k n:Int} {w w':World} (h:At s k n w) (hb:Below w.heap.size w w'):At s k n w' :=
 ⟨Nat.lt_of_lt_of_le h.1 hb.size,(hb.cell (p:=⟨s,0,none⟩) h.1).trans h.2.1,(hb.cell (p:=⟨s,1,none⟩) h.1).trans h.2.2⟩
theorem Below.next {W0 W w4:World} (h:Below W0.heap.size W0 W) (hb:Below W.heap.size W w4):Below W0.heap.size W0 w4:=h.trans (hb.mono h.size)
theorem held_of {s:Nat} {k n:Int} {W0 w':World} (h:At s k n W0) (hB:Below W0.heap.size W0 w'):Below W0.heap.size W0 w'∧w'.cell? ⟨s,0,none⟩=some (.int .i64 k)∧w'.cell? ⟨s,1,none⟩=some (.int .i64 n):=⟨hB,(h.later hB).2⟩
theorem of_in {n:Int} (h1 : -1000000000000≤n) (h2:n≤1000000000000) (w:World):Calls Tryz.prog 23 #[.int .i64 n] w fun e w'=>e=.returned (.agg #[.int .i64 1,.int .i64 n])∧Below w.heap.size w w':=by
 have h:=of_any n w
 rw [ofP_in h1 h2] at h
 exact h
end Go.Proofs.YtaodedckffjpgafGreatDoor
namespace Go.Proofs.YtaodedckffjpgafGreatDoor
open Go.ChangeShapes Go.WideShapes Go.ChangeAt Go.RowKit
set_option maxRecDepth 20000
def fmA:Mem:=⟨⟨#[114,97,116,105,111]⟩,-1,0,⟨#[112,47,113]⟩⟩
def fmB:Mem:=⟨⟨#[112]⟩,-1,0,⟨#[]⟩⟩
def fmC:Mem:=⟨⟨#[113]⟩,-1,0,⟨#[]⟩⟩
def ftA:Mem:=⟨⟨#[97,108,108]⟩,-1,0,⟨#[]⟩⟩
def ftB:Mem:=⟨⟨#[117]⟩,0,1,⟨#[]⟩⟩
def ftC:Mem:=⟨⟨#[118]⟩,0,1,⟨#[]⟩⟩
def fstM (i:Nat):Mem:=if i=0 then fmA else if i=1 then fmB else fmC
def fstT (i:Nat):Mem:=if i=0 then ftA else if i=1 then ftB else ftC
def fsS (t:Bool):Int:=if t=true then 9 else 0
def fstDm (t:Bool):Dm:=⟨⟨#[109]⟩,fsS t,3,fstM⟩
def fstDt:Dm:=⟨⟨#[116]⟩,5,3,fstT⟩
def fstD (t:Bool):Nat→Dm:=fun i=>if i=0 then fstDm t else fstDt
def fstE (a b c d:Int):List En:=[⟨[1,1],a⟩,⟨[1,2],c⟩,⟨[2,1],b⟩,⟨[2,2],d⟩]
theorem fs_dimM:∀ t,dimErr (fstDm t)=(-1,0):=by decide +kernel
theorem fs_dimT:dimErr fstDt=(-1,0):=by decide +kernel
theorem fs_mM:∀ t,∀ j:Fin 3,mErr (fstDm t) j=0:=by decide +kernel
theorem fs_mT:∀ j:Fin 3,mErr fstDt j=0:=by decide +kernel
theorem fs_ndM:∀ t,ndL (fstDm t)=[[1,2],[],[]]:=by decide +kernel
theorem fs_ndT:ndL fstDt=[[1,2],[],[]]:=by decide +kernel
theorem fs_acyc (i:Nat):cycB [[1,2],[],[]] i=false:=by
 refine up_acyc (fun a x hx=>?_) i
 unfold rowN at hx
 rcases h:a.toNat with _ | _ | _ | k
 ·rw [h] at hx
  simp at hx
  omega
 ·rw [h] at hx
  simp at hx
 ·rw [h] at hx
  simp at hx
 ·rw [h] at hx
  simp at hx
theorem fs_errM (t:Bool):rErr (fstDm t)=(-1,0):=re3 (by rw [fs_dimM]) (fun j hj=>fs_mM t ⟨j,hj⟩) fun j _=>by rw [fs_ndM];exact fs_acyc j
theorem fs_errT:rErr fstDt=(-1,0):=re3 (by rw [fs_dimT]) (fun j hj=>fs_mT ⟨j,hj⟩) fun j _=>by rw [fs_ndT];exact fs_acyc j
theorem fs_all:∀ t,(allErr (fstD t) 2).2.2=0:=by decide +kernel
theorem fs_ru (t:Bool):(ruErr (fstD t) 2).2.2=0:=ru_zero (fs_all t) fun i _=>by
 unfold fstD
 split
 ·rw [fs_errM]
 ·rw [fs_errT]
theorem fs_pl:∀ t,∀ i k:Fin 3,placeErr (fstD t) 2 [(i:Int),(k:Int)]=0:=by decide +kernel
theorem fs_lf:∀ t,leafV (fstD t) 2 [1,1]=true∧leafV (fstD t) 2 [1,2]=true∧leafV (fstD t) 2 [2,1]=true∧leafV (fstD t) 2 [2,2]=true:=by decide +kernel
theorem fs_less:lessL [1,1] [1,2]=true∧lessL [1,1] [2,1]=true∧lessL [1,1] [2,2]=true∧lessL [1,2] [2,1]=true∧lessL [1,2] [2,2]=true∧lessL [2,1] [2,2]=true:=by decide +kernel
theorem fs_num {x:Int} (h0:0≤x) (h1:x≤1000):numOk x=true:=by unfold numOk;simp;omega
theorem fs_ens (t:Bool) {a b c d:Int} (ha:0≤a∧a≤1000) (hb:1≤b∧b≤1000) (hc:0≤c∧c≤1000) (hd:1≤d∧d≤1000):Ens (fstD t) 2 (fstE a b c d):=by
 obtain ⟨l1,l2,l3,l4⟩:=fs_lf t
 obtain ⟨k1,k2,k3,k4,k5,k6⟩:=fs_less
 refine ⟨fs_all t,fun e he=>?_,?_⟩
 ·unfold fstE at he
  simp only [List.mem_cons,List.not_mem_nil,or_false] at he
  rcases he with rfl | rfl | rfl | rfl
  ·exact ⟨inO_of (fs_pl t 1 1),l1,fs_num ha.1 ha.2⟩
  ·exact ⟨inO_of (fs_pl t 1 2),l2,fs_num hc.1 hc.2⟩
  ·exact ⟨inO_of (fs_pl t 2 1),l3,fs_num (by show 0≤b;omega) hb.2⟩
  ·exact ⟨inO_of (fs_pl t 2 2),l4,fs_num (by show 0≤d;omega) hd.2⟩
 ·unfold fstE
  simp [k1,k2,k3,k4,k5,k6]
theorem fs_so (t:Bool) {a b c d:Int} (h:Ens (fstD t) 2 (fstE a b c d)):soErr (fstD t) 2 (fstE a b c d) [0,0]=0:=by
 have h1:cuErr (fstD t) 2 (fstE a b c d)=0:=by unfold cuErr;rw [fs_ru,if_neg (by simp),h.ok]
 unfold soErr
 rw [h1,if_neg (by simp)]
 exact fs_pl t 0 0
theorem fs_be (t:Bool):byErr (fstD t) 2 [0,0]=0:=by
 unfold byErr
 rw [fs_ru,if_neg (by simp)]
 exact fs_pl t 0 0
theorem fs_by (t:Bool):byV (fstD t) 2 [0,0]=if t=true then 0 else 1:=by
 unfold byV
 rw [if_pos (fs_be t)]
 cases t <;> decide +kernel
theorem fs_byL:∀ t,byTo (fstD t) [1,1] 2 = -1∧byTo (fstD t) [1,2] 2 = -1∧byTo (fstD t) [2,1] 2 = -1∧byTo (fstD t) [2,2] 2 = -1:=by decide +kernel
theorem fs_byT:∀ t,byTo (fstD t) [1,0] 2=1∧byTo (fstD t) [2,0] 2=1:=by decide +kernel
theorem fs_byM:∀ t,byTo (fstD t) [0,1] 2=0∧byTo (fstD t) [0,2] 2=0:=by decide +kernel
theorem fs_byO:byTo (fstD true) [0,0] 2=0∧byTo (fstD false) [0,0] 2=1:=by decide +kernel
theorem fs_parts:partsOf fstT 3 0=[1,2]:=by decide +kernel
theorem fs_tre:∀ t,treF (fstDm t) 0=.bin 6 (.ref ⟨#[112]⟩) (.ref ⟨#[113]⟩)
 | true=>by kernel_rfl
 | false=>by kernel_rfl
theorem fs_wh:∀ t,whL (fstDm t) [112]=1∧whL (fstDm t) [113]=2:=by decide +kernel
theorem fs_get (a b c d:Int):getE (fstE a b c d) [1,1]=(1,a)∧getE (fstE a b c d) [1,2]=(1,c)∧getE (fstE a b c d) [2,1]=(1,b)∧getE (fstE a b c d) [2,2]=(1,d):=⟨rfl,rfl,rfl,rfl⟩
theorem fs_oneM (t:Bool) (f:Int→Int×Int):oneV (fstDm t) f 0=opP 6 (f 1) (f 2):=by
 unfold oneV
 rw [if_neg (show ¬ ((fstDm t).mem 0).formula.size=0 from (show ¬ (fstM 0).formula.size=0 from by decide)),fs_tre]
 show opP 6 (f (whL (fstDm t) [112])) (f (whL (fstDm t) [113]))=_
 rw [(fs_wh t).1,(fs_wh t).2]
theorem fs_over {x y:Int} (hx0:0≤x) (hx:x≤2000) (hy:0<y):opP 6 (1,x) (1,y)=(1,x / y):=by
 show overP 1 x 1 y=_
 unfold overP joinP quoP
 rw [if_neg (by decide),if_neg (by decide),if_neg (by omega),Int.tdiv_eq_ediv_of_nonneg hx0]
 have h1:0≤x / y:=Int.ediv_nonneg hx0 (by omega)
 have h2:x / y≤x:=Int.ediv_le_self _ hx0
 exact ofP_in (by omega) (by omega)
theorem fs_plus {x y:Int} (hx0:0≤x) (hx:x≤2000) (hy0:0≤y) (hy:y≤2000):plusP (plusP 0 0 1 x).1 (plusP 0 0 1 x).2 1 y=(1,x+y):=by
 have h1:plusP 0 0 1 x=(1,x):=by
  unfold plusP joinP
  rw [if_neg (by decide),if_neg (by decide),Int.zero_add]
  exact ofP_in (by omega) (by omega)
 rw [h1]
 show plusP 1 x 1 y=_
 unfold plusP joinP
 rw [if_neg (by decide),if_neg (by decide)]
 exact ofP_in (by omega) (by omega)
theorem fs_oneT (f:Int→Int×Int) {x y:Int} (h1:f 1=(1,x)) (h2:f 2=(1,y)) (hx0:0≤x) (hx:x≤2000) (hy0:0≤y) (hy:y≤2000):oneV fstDt f 0=(1,x+y):=by
 unfold oneV
 rw [if_pos (show (fstDt.mem 0).formula.size=0 from by decide)]
 show (partsOf fstT 3 0).foldl (partStep fstT f) (0,0)=_
 rw [fs_parts]
 show plusP (plusP 0 0 (f 1).1 (f 1).2).1 (plusP 0 0 (f 1).1 (f 1).2).2 (f 2).1 (f 2).2=_
 rw [h1,h2]
 exact fs_plus hx0 hx hy0 hy
def fsV (t:Bool) (a b c d:Int):Int:=if t=true then (a+c) / (b+d) else a / b+c / d
theorem fs_val (t:Bool) {a b c d:Int} (ha:0≤a∧a≤1000) (hb:1≤b∧b≤1000) (hc:0≤c∧c≤1000) (hd:1≤d∧d≤1000):soV (fstD t) 2 (fstE a b c d) [0,0]=(1,fsV t a b c d):=by
 have hE:=fs_ens t ha hb hc hd
 have hR:AllR (fstD t) 2:=(ru_right (fs_ru t)).2
 have hP:∀ i k:Fin 3,InO (fstD t) 2 [(i:Int),(k:Int)]:=fun i k=>inO_of (fs_pl t i k)
 obtain ⟨g1,g2,g3,g4⟩:=fs_get a b c d
 obtain ⟨l1,l2,l3,l4⟩:=fs_byL t
 have v11:solV (fstD t) 2 (getE (fstE a b c d)) [1,1]=(1,a):=by rw [sol_leaf _ (by rw [l1];decide),g1]
 have v12:solV (fstD t) 2 (getE (fstE a b c d)) [1,2]=(1,c):=by rw [sol_leaf _ (by rw [l2];decide),g2]
 have v21:solV (fstD t) 2 (getE (fstE a b c d)) [2,1]=(1,b):=by rw [sol_leaf _ (by rw [l3];decide),g3]
 have v22:solV (fstD t) 2 (getE (fstE a b c d)) [2,2]=(1,d):=by rw [sol_leaf _ (by rw [l4];decide),g4]
 unfold soV
 rw [if_pos (fs_so t hE)]
 cases t with
 | true =>
  have u1:solV (fstD true) 2 (getE (fstE a b c d)) [1,0]=(1,a+c):=by
   rw [sol_by hR (getE (fstE a b c d)) (p:=[1,0]) (hP 1 0) (b:=1) (fs_byT true).1]
   exact fs_oneT _ v11 v12 ha.1 (by omega) hc.1 (by omega)
  have u2:solV (fstD true) 2 (getE (fstE a b c d)) [2,0]=(1,b+d):=by
   rw [sol_by hR (getE (fstE a b c d)) (p:=[2,0]) (hP 2 0) (b:=1) (fs_byT true).2]
   exact fs_oneT _ v21 v22 (by omega) (by omega) (by omega) (by omega)
  rw [sol_by hR (getE (fstE a b c d)) (p:=[0,0]) (hP 0 0) (b:=0) fs_byO.1]
  show oneV (fstDm true) (fun x=>solV (fstD true) 2 (getE (fstE a b c d)) ([0,0].set 0 x)) 0=_
  rw [fs_oneM]
  show opP 6 (solV (fstD true) 2 (getE (fstE a b c d)) [1,0]) (solV (fstD true) 2 (getE (fstE a b c d)) [2,0])=_
  rw [u1,u2]
  exact fs_over (by omega) (by omega) (by omega)
 | false =>
  have u1:solV (fstD false) 2 (getE (fstE a b c d)) [0,1]=(1,a / b):=by
   rw [sol_by hR (getE (fstE a b c d)) (p:=[0,1]) (hP 0 1) (b:=0) (fs_byM false).1]
   show oneV (fstDm false) (fun x=>solV (fstD false) 2 (getE (fstE a b c d)) ([0,1].set 0 x)) 0=_
   rw [fs_oneM]
   show opP 6 (solV (fstD false) 2 (getE (fstE a b c d)) [1,1]) (solV (fstD false) 2 (getE (fstE a b c d)) [2,1])=_
   rw [v11,v21]
   exact fs_over ha.1 (by omega) (by omega)
  have u2:solV (fstD false) 2 (getE (fstE a b c d)) [0,2]=(1,c / d):=by
   rw [sol_by hR (getE (fstE a b c d)) (p:=[0,2]) (hP 0 2) (b:=0) (fs_byM false).2]
   show oneV (fstDm false) (fun x=>solV (fstD false) 2 (getE (fstE a b c d)) ([0,2].set 0 x)) 0=_
   rw [fs_oneM]
   show opP 6 (solV (fstD false) 2 (getE (fstE a b c d)) [1,2]) (solV (fstD false) 2 (getE (fstE a b c d)) [2,2])=_
   rw [v12,v22]
   exact fs_over hc.1 (by omega) (by omega)
  rw [sol_by hR (getE (fstE a b c d)) (p:=[0,0]) (hP 0 0) (b:=1) fs_byO.2]
  have q1:0≤a / b:=Int.ediv_nonneg ha.1 (by omega)
  have q2:a / b≤a:=Int.ediv_le_self _ ha.1
  have q3:0≤c / d:=Int.ediv_nonneg hc.1 (by omega)
  have q4:c / d≤c:=Int.ediv_le_self _ hc.1
  exact fs_oneT _ u1 u2 q1 (by omega) q3 (by omega)
theorem blk_old {w:World} {o:Obj} {k:Nat} {x:Obj} (h:w.heap[k]?=some x):(w.alloc o).heap[k]?=some x:=by
 rw [heap_alloc_old _ _ (Array.getElem?_eq_some_iff.1 h).1]
 exact h
theorem blk_new {w:World} {cs:Array Value} {t k:Nat} (h:w.heap.size=k):(w.alloc (.cells cs t)).heap[k]?=some (.cells cs t (0,0)):=by
 subst h
 exact heap_alloc_new ..
theorem pl_two {w:World} {b:Nat} {x y:Int} {T:Nat} {fr:Nat×Nat} (h:w.heap[b]?=some (.cells #[.int .i64 x,.int .i64 y] T fr)):PlAt w (some ⟨b,0,none⟩) 2 [x,y]:=by
 refine ⟨Nat.le_refl _,Or.inr ⟨b,0,rfl,(Array.getElem?_eq_some_iff.1 h).1,fun j hj=>?_⟩⟩
 have hj2:j<2:=hj
 rcases j with _ | _ | j
 ·simp [World.cell?,h]
 ·simp [World.cell?,h]
 ·omega
def fsW0 (w:World):World:=(((w.alloc (.cells #[.string ⟨#[114,97,116,105,111]⟩,.int .i64 (-1),.int .i64 0,.string ⟨#[112,47,113]⟩,.string ⟨#[112]⟩,.int .i64 (-1),.int .i64 0,.string ⟨#[]⟩,.string ⟨#[113]⟩,.int .i64 (-1),.int .i64 0,.string ⟨#[]⟩] 26)).alloc (.cells #[.string ⟨#[109]⟩,.int .i64 0,.slice (some ⟨w.heap.size,0,none⟩) 3 3] 24)).alloc (.cells #[.string ⟨#[97,108,108]⟩,.int .i64 (-1),.int .i64 0,.string ⟨#[]⟩,.string ⟨#[117]⟩,.int .i64 0,.int .i64 1,.string ⟨#[]⟩,.string ⟨#[118]⟩,.int .i64 0,.int .i64 1,.string ⟨#[]⟩] 26)).alloc (.cells #[.string ⟨#[116]⟩,.int .i64 5,.slice (some ⟨w.heap.size+2,0,none⟩) 3 3] 24)
structure FsV (w:World) (t:Bool) (V:World):Prop where
 size:V.heap.size=w.heap.size+4
 below:Below w.heap.size w V
 b0:V.heap[w.heap.size]?=some (.cells #[.string ⟨#[114,97,116,105,111]⟩,.int .i64 (-1),.int .i64 0,.string ⟨#[112,47,113]⟩,.string ⟨#[112]⟩,.int .i64 (-1),.int .i64 0,.string ⟨#[]⟩,.string ⟨#[113]⟩,.int .i64 (-1),.int .i64 0,.string ⟨#[]⟩] 26 (0,0))
 b1:V.heap[w.heap.size+1]?=some (.cells #[.string ⟨#[109]⟩,.int .i64 (fsS t),.slice (some ⟨w.heap.size,0,none⟩) 3 3] 24 (0,0))
 b2:V.heap[w.heap.size+2]?=some (.cells #[.string ⟨#[97,108,108]⟩,.int .i64 (-1),.int .i64 0,.string ⟨#[]⟩,.string ⟨#[117]⟩,.int .i64 0,.int .i64 1,.string ⟨#[]⟩,.string ⟨#[118]⟩,.int .i64 0,.int .i64 1,.string ⟨#[]⟩] 26 (0,0))
 b3:V.heap[w.heap.size+3]?=some (.cells #[.string ⟨#[116]⟩,.int .i64 5,.slice (some ⟨w.heap.size+2,0,none⟩) 3 3] 24 (0,0))
theorem fsW0_V (w:World):FsV w false (fsW0 w):=by
 unfold fsW0
 exact ⟨by simp,by go_grown,blk_old (blk_old (blk_old (blk_new rfl))),blk_old (blk_old (blk_new (by simp))),blk_old (blk_new (by simp)),blk_new (by simp)⟩
theorem fsW1_V (w:World):FsV w true ((fsW0 w).setCell ⟨w.heap.size+1,1,none⟩ (.int .i64 9)):=by
 have h:=fsW0_V w
 refine ⟨by simp only [World.size_setCell];exact h.size,h.below.setCell (by simp) _,?_,?_,?_,?_⟩
 ·rw [setCell_off _ _ _ _ _ (by omega)];exact h.b0
 ·rw [set_ty h.b1];rfl
 ·rw [setCell_off _ _ _ _ _ (by omega)];exact h.b2
 ·rw [setCell_off _ _ _ _ _ (by omega)];exact h.b3
def fsU (w V:World) (s a b c d:Int):World:=(((((((V.alloc (.cells #[.string ⟨#[109]⟩,.int .i64 s,.slice (some ⟨w.heap.size,0,none⟩) 3 3,.string ⟨#[116]⟩,.int .i64 5,.slice (some ⟨w.heap.size+2,0,none⟩) 3 3] 24)).alloc (.cells #[.slice (some ⟨V.heap.size,0,none⟩) 2 2] 42)).alloc (.cells #[.int .i64 1,.int .i64 1] 3)).alloc (.cells #[.int .i64 1,.int .i64 2] 3)).alloc (.cells #[.int .i64 2,.int .i64 1] 3)).alloc (.cells #[.int .i64 2,.int .i64 2] 3)).alloc (.cells #[.slice (some ⟨V.heap.size+2,0,none⟩) 2 2,.int .i64 a,.slice (some ⟨V.heap.size+3,0,none⟩) 2 2,.int .i64 c,.slice (some ⟨V.heap.size+4,0,none⟩) 2 2,.int .i64 b,.slice (some ⟨V.heap.size+5,0,none⟩) 2 2,.int .i64 d] 57)).alloc (.cells #[.int .i64 0,.int .i64 0] 3)
theorem fsU_below (w V:World) (s a b c d:Int):Below V.heap.size V (fsU w V s a b c d):=by unfold fsU;go_grown
theorem fsU_size (w V:World) (s a b c d:Int):(fsU w V s a b c d).heap.size=V.heap.size+8:=by unfold fsU;simp
theorem fsU_dims {w V:World} {t:Bool} (h:FsV w t V) (a b c d:Int):DimsV (fsU w V (fsS t) a b c d) (some ⟨V.heap.size,0,none⟩) 2 2 (fstD t) (fun i=>if i=0 then some ⟨w.heap.size,0,none⟩ else some ⟨w.heap.size+2,0,none⟩) (fun _=>3):=by
 have hs:=fsU_size w V (fsS t) a b c d
 have hB:=fsU_below w V (fsS t) a b c d
 have hv:=h.size
 have k0:=(hB.block _ (by omega)).trans h.b0
 have k2:=(hB.block _ (by omega)).trans h.b2
 have k4:(fsU w V (fsS t) a b c d).heap[V.heap.size]?=some (.cells #[.string ⟨#[109]⟩,.int .i64 (fsS t),.slice (some ⟨w.heap.size,0,none⟩) 3 3,.string ⟨#[116]⟩,.int .i64 5,.slice (some ⟨w.heap.size+2,0,none⟩) 3 3] 24 (0,0)):=by
  unfold fsU
  exact blk_old (blk_old (blk_old (blk_old (blk_old (blk_old (blk_old (blk_new rfl)))))))
 refine ⟨Nat.le_refl _,Or.inr ⟨V.heap.size,0,rfl,by omega,fun i hi=>?_⟩⟩
 have hi2:i<2:=hi
 rcases i with _ | _ | i
 ·refine ⟨(Lib.cell_of_heap k4 0).trans rfl,(Lib.cell_of_heap k4 1).trans rfl,(Lib.cell_of_heap k4 2).trans rfl,Nat.le_refl _,Or.inr ⟨w.heap.size,0,rfl,by omega,fun j hj=>?_⟩⟩
  have hj3:j<3:=hj
  rcases j with _ | _ | _ | j
  ·exact ⟨(Lib.cell_of_heap k0 0).trans rfl,(Lib.cell_of_heap k0 1).trans rfl,(Lib.cell_of_heap k0 2).trans rfl,(Lib.cell_of_heap k0 3).trans rfl⟩
  ·exact ⟨(Lib.cell_of_heap k0 4).trans rfl,(Lib.cell_of_heap k0 5).trans rfl,(Lib.cell_of_heap k0 6).trans rfl,(Lib.cell_of_heap k0 7).trans rfl⟩
  ·exact ⟨(Lib.cell_of_heap k0 8).trans rfl,(Lib.cell_of_heap k0 9).trans rfl,(Lib.cell_of_heap k0 10).trans rfl,(Lib.cell_of_heap k0 11).trans rfl⟩
  ·omega
 ·refine ⟨(Lib.cell_of_heap k4 3).trans rfl,(Lib.cell_of_heap k4 4).trans rfl,(Lib.cell_of_heap k4 5).trans rfl,Nat.le_refl _,Or.inr ⟨w.heap.size+2,0,rfl,by omega,fun j hj=>?_⟩⟩
  have hj3:j<3:=hj
  rcases j with _ | _ | _ | j
  ·exact ⟨(Lib.cell_of_heap k2 0).trans rfl,(Lib.cell_of_heap k2 1).trans rfl,(Lib.cell_of_heap k2 2).trans rfl,(Lib.cell_of_heap k2 3).trans rfl⟩
  ·exact ⟨(Lib.cell_of_heap k2 4).trans rfl,(Lib.cell_of_heap k2 5).trans rfl,(Lib.cell_of_heap k2 6).trans rfl,(Lib.cell_of_heap k2 7).trans rfl⟩
  ·exact ⟨(Lib.cell_of_heap k2 8).trans rfl,(Lib.cell_of_heap k2 9).trans rfl,(Lib.cell_of_heap k2 10).trans rfl,(Lib.cell_of_heap k2 11).trans rfl⟩
  ·omega
 ·omega
def fsX (V:World) (a b c d:Int):List EnL:=[⟨⟨[1,1],a⟩,some ⟨V.heap.size+2,0,none⟩,2⟩,⟨⟨[1,2],c⟩,some ⟨V.heap.size+3,0,none⟩,2⟩,⟨⟨[2,1],b⟩,some ⟨V.heap.size+4,0,none⟩,2⟩,⟨⟨[2,2],d⟩,some ⟨V.heap.size+5,0,none⟩,2⟩]
theorem fsX_l (V:World) (a b c d:Int):lE (fsX V a b c d)=fstE a b c d:=rfl
theorem fsU_ents (w V:World) (s a b c d:Int):EnsV (fsU w V s a b c d) (some ⟨V.heap.size+6,0,none⟩) 4 (fsX V a b c d):=by
 have hs:=fsU_size w V s a b c d
 have k2:(fsU w V s a b c d).heap[V.heap.size+2]?=some (.cells #[.int .i64 1,.int .i64 1] 3 (0,0)):=by
  unfold fsU
  exact blk_old (blk_old (blk_old (blk_old (blk_old (blk_new (by simp))))))
 have k3:(fsU w V s a b c d).heap[V.heap.size+3]?=some (.cells #[.int .i64 1,.int .i64 2] 3 (0,0)):=by
  unfold fsU
  exact blk_old (blk_old (blk_old (blk_old (blk_new (by simp)))))
 have k4:(fsU w V s a b c d).heap[V.heap.size+4]?=some (.cells #[.int .i64 2,.int .i64 1] 3 (0,0)):=by
  unfold fsU
  exact blk_old (blk_old (blk_old (blk_new (by simp))))
 have k5:(fsU w V s a b c d).heap[V.heap.size+5]?=some (.cells #[.int .i64 2,.int .i64 2] 3 (0,0)):=by
  unfold fsU
  exact blk_old (blk_old (blk_new (by simp)))
 have k6:(fsU w V s a b c d).heap[V.heap.size+6]?=some (.cells #[.slice (some ⟨V.heap.size+2,0,none⟩) 2 2,.int .i64 a,.slice (some ⟨V.heap.size+3,0,none⟩) 2 2,.int .i64 c,.slice (some ⟨V.heap.size+4,0,none⟩) 2 2,.int .i64 b,.slice (some ⟨V.heap.size+5,0,none⟩) 2 2,.int .i64 d] 57 (0,0)):=by
  unfold fsU
  exact blk_old (blk_new (by simp))
 refine ⟨Nat.le_refl _,by omega,Or.inr ⟨V.heap.size+6,0,rfl,by omega,fun j u hj=>?_,fun x hx=>?_⟩⟩
 ·have e:cellsE (fsX V a b c d)=[.slice (some ⟨V.heap.size+2,0,none⟩) 2 2,.int .i64 a,.slice (some ⟨V.heap.size+3,0,none⟩) 2 2,.int .i64 c,.slice (some ⟨V.heap.size+4,0,none⟩) 2 2,.int .i64 b,.slice (some ⟨V.heap.size+5,0,none⟩) 2 2,.int .i64 d]:=rfl
  have hj':(#[Value.slice (some ⟨V.heap.size+2,0,none⟩) 2 2,.int .i64 a,.slice (some ⟨V.heap.size+3,0,none⟩) 2 2,.int .i64 c,.slice (some ⟨V.heap.size+4,0,none⟩) 2 2,.int .i64 b,.slice (some ⟨V.heap.size+5,0,none⟩) 2 2,.int .i64 d]:Array Value)[j]?=some u:=by
   rw [e] at hj
   simpa using hj
  rw [Nat.zero_add,Lib.cell_of_heap k6]
  exact hj'
 ·unfold fsX at hx
  simp only [List.mem_cons,List.not_mem_nil,or_false] at hx
  rcases hx with rfl | rfl | rfl | rfl
  ·exact pl_two k2
  ·exact pl_two k3
  ·exact pl_two k4
  ·exact pl_two k5
theorem fsU_place (w V:World) (s a b c d:Int):PlAt (fsU w V s a b c d) (some ⟨V.heap.size+7,0,none⟩) 2 [0,0]:=by
 unfold fsU
 exact pl_two (blk_new (by simp))
theorem fsU_out (w V:World) (s a b c d:Int):(fsU w V s a b c d).heap[V.heap.size+1]?=some (.cells #[.slice (some ⟨V.heap.size,0,none⟩) 2 2] 42 (0,0)):=by
 unfold fsU
 exact blk_old (blk_old (blk_old (blk_old (blk_old (blk_old (blk_new (by simp)))))))
end Go.Proofs.YtaodedckffjpgafGreatDoor
