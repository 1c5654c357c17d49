/-
  Whatever text is read as a formula, what Print writes of it is no longer than that text, on plain data.
-/
import Derived.Maps.AppendAt
import Derived.Deep.CutRange
import Derived.Deep.RegionHeld
import Derived.Laws.AppendOwnNone
import Derived.Test.YtglekooldbeklaaGreatDoorJKBA
import Derived.Test.YtglekooldbeklaaGreatDoorJKBD
namespace Go.Proofs.YtglekooldbeklaaGreatDoor
theorem form_prs {s:ByteArray} (h:prsE s=0):formErr (prsL s)=0:=by
 have hL:prsL s=nodesP s:=by unfold prsL;rw [if_pos h]
 rw [hL]
 unfold prsE at h
 split at h
 ·split at h <;> cases h
 ·split at h
  ·exact h
  ·cases h
end Go.Proofs.YtglekooldbeklaaGreatDoor
namespace Go.Proofs.YtglekooldbeklaaGreatDoor
open Go.ChangeShapes Go.WideShapes Go.ChangeAt Go.RowKit
set_option maxRecDepth 20000
theorem by_hit {D:Nat→Dm} {p:List Int} {k:Nat} (h1:leafB (D k).mem (D k).n (p.getD k 0).toNat=false) (h2:byTo D p k<0∨(D (byTo D p k).toNat).solve<(D k).solve):byTo D p (k+1)=(k:Int):=by rw [byTo,if_pos ⟨h1,h2⟩]
theorem by_miss {D:Nat→Dm} {p:List Int} {k:Nat} (h : ¬ (leafB (D k).mem (D k).n (p.getD k 0).toNat=false∧(byTo D p k<0∨(D (byTo D p k).toNat).solve<(D k).solve))):byTo D p (k+1)=byTo D p k:=by rw [byTo,if_neg h]
noncomputable def badD (D:Nat→Dm) (i:Nat):Bool:=decide ((rErr (D i)).2≠0)
noncomputable def ruErr (D:Nat→Dm) (n:Nat):Int×Int×Int :=
 if (allErr D n).2.2≠0 then allErr D n
 else if 0≤findFrom (badD D) n 0 then (findFrom (badD D) n 0,rErr (D (findFrom (badD D) n 0).toNat))
 else (-1,-1,0)
theorem ru0 {D:Nat→Dm} {n:Nat} (h:(allErr D n).2.2≠0):ruErr D n=allErr D n:=by unfold ruErr;rw [if_pos h]
theorem ru1 {D:Nat→Dm} {n i:Nat} (h:(allErr D n).2.2=0) (hi:i<n) (hb:(rErr (D i)).2≠0) (hf:∀ j,j<i→(rErr (D j)).2=0):ruErr D n=((i:Int),(rErr (D i)).1,(rErr (D i)).2):=by
 have e:findFrom (badD D) n 0=(i:Int):=findFrom_at (Nat.zero_le _) (by omega) (decide_eq_true hb) fun j _ hj=>decide_eq_false (by simpa using hf j hj)
 unfold ruErr
 rw [if_neg (by simpa using h),e,if_pos (by omega),Int.toNat_natCast]
theorem ru2 {D:Nat→Dm} {n:Nat} (h:(allErr D n).2.2=0) (hf:∀ j,j<n→(rErr (D j)).2=0):ruErr D n=(-1,-1,0):=by
 unfold ruErr
 rw [if_neg (by simpa using h),findFrom_none (p:=badD D) fun j _ hj=>decide_eq_false (by simpa using hf j (by omega)),if_neg (by omega)]
set_option maxHeartbeats 4000000 in
theorem rulall_any (A0:Option Addr) (cap n:Nat) (D:Nat→Dm) (A:Nat→Option Addr) (C:Nat→Nat) (w:World) (hM:DimsV w A0 cap n D A C):Calls Tryz.prog 14 #[.agg #[.slice A0 n cap]] w fun e w'=>e=.returned (.tuple #[.int .i64 (ruErr D n).1,.int .i64 (ruErr D n).2.1,errV (ruErr D n).2.2])∧Below w.heap.size w w':=by
 have hB0:=ownOut_below w A0 n cap 24
 have hS:=ownOut_size w A0 n cap 24
 have hA:=ownOut_at w A0 n cap 24
 have hal:=all_any A0 cap n D A C (ownOut w A0 n cap 24) (hM.later hB0)
 obtain ⟨W,hW⟩:∃ W,ownOut w A0 n cap 24=W:=⟨_,rfl⟩
 rw [hW] at hB0 hS hA hal
 unfold ownOut at hW
 have HB0:Hid (Below w.heap.size w W):=hB0
 have HM:Hid (DimsV w A0 cap n D A C):=hM
 have hsz:w.heap.size<W.heap.size:=by omega
 clear hM hB0
 by_cases he:(allErr D n).2.2=0
 case neg =>
  rw [ru0 he]
  rw [errV_some he] at hal ⊢
  generalize (allErr D n).1=x at hal ⊢
  generalize (allErr D n).2.1=y at hal ⊢
  generalize (allErr D n).2.2=c at hal ⊢
  clear he
  go_enter Tryz.func14,Tryz.ntmps14
  go_wp2_with fail
  refine hal.mono ?_
  rintro e w1 ⟨rfl,hb1⟩
  go_wp2_with fail
  go_returns
  exact ⟨rfl,onB HB0.out hb1⟩
 obtain ⟨hn1,hn4,-,-⟩:=allErr_some he
 have HE:Hid ((allErr D n).2.2=0):=he
 rw [he,errV_zero] at hal
 generalize (allErr D n).1=x at hal
 generalize (allErr D n).2.1=y at hal
 have hnI:(n:Int)≤4:=by omega
 have HA:Hid (W.cell? ⟨w.heap.size,0,none⟩=some (.slice A0 n cap)):=hA
 clear he
 go_enter Tryz.func14,Tryz.ntmps14
 go_wp2_with fail
 refine hal.mono ?_
 rintro e w1 ⟨rfl,hb1⟩
 have HB1:Hid (Below W.heap.size W w1):=hb1
 have c1:w1.cell? ⟨w.heap.size,0,none⟩=some (.slice A0 n cap):=(hb1.cell (p:=⟨w.heap.size,0,none⟩) hsz).trans hA
 have hsz1:w.heap.size<w1.heap.size:=Nat.lt_of_lt_of_le hsz hb1.size
 clear hb1 hal hA hW
 go_wp2_with fail
 go_loopg [26] n (fun g s26 wr => ∃ (k:Nat),k≤n∧g=n-k∧s26=.int .i64 k∧Hid (∀ j,j<k→(rErr (D j)).2=0)∧Below W.heap.size W wr)
 case atStart=>exact ⟨0,Nat.zero_le _,rfl,rfl,(fun j hj=>absurd hj (Nat.not_lt_zero _):∀ j,j<0→_),HB1.out⟩
 case round =>
  obtain ⟨k,hk,rfl,rfl,HK,hBw⟩:=hrel
  have HBw:Hid (Below W.heap.size W wr):=hBw
  by_cases hlt:k<n
  ·have hki:(k:Int)<(n:Int):=by omega
   obtain ⟨hcap,h0 | ⟨b,o,rfl,hMs⟩⟩:=HM.out.later (onB HB0.out hBw)
   ·omega
   have hcapI:(n:Int)≤(cap:Int):=by omega
   obtain ⟨h0,h1,h2,h3⟩:=hMs.2 k hlt
   have hbl:b<wr.heap.size:=hMs.1
   have hBo:=ownDim_below wr (D k) (A k) (C k) 32
   have hck:=rcheck_any (D k) (A k) (C k) (ownDim wr (D k) (A k) (C k) 32) (h3.later hBo)
   obtain ⟨d0,d1,d2,hqW⟩:=dim_cells (w:=wr) (d:=D k) (A:=A k) (cap:=C k) (Below.refl _ _)
   have HBo:Hid (Below wr.heap.size wr (ownDim wr (D k) (A k) (C k) 32)):=hBo
   unfold dimV at hck
   obtain ⟨W2,hW2⟩:∃ W2,ownDim wr (D k) (A k) (C k) 32=W2:=⟨_,rfl⟩
   rw [hW2] at d0 d1 d2 hqW HBo hck
   unfold ownDim at hW2
   clear h3 hMs hBo hBw
   by_cases he:(rErr (D k)).2=0
   ·rw [he,errV_zero] at hck
    have HK2:Hid (∀ j,j<k+1→(rErr (D j)).2=0):=fun j hj=>by
     by_cases e:j=k
     ·rw [e];exact he
     ·exact HK.out j (by omega)
    generalize (rErr (D k)).1=z at hck
    clear he
    go_wp2_with fail
    refine hck.mono ?_
    rintro e w2 ⟨rfl,hb2⟩
    have HB2:Hid (Below W.heap.size W w2):=onB HBw.out (onB HBo.out hb2)
    clear hb2 hck
    go_wp2_with fail
    go_roundg (n-(k+1))
    case measure=>omega
    case rel=>exact ⟨k+1,by omega,rfl,by go_num,HK2,HB2.out⟩
   ·have HRu:Hid (ruErr D n=((k:Int),(rErr (D k)).1,(rErr (D k)).2)):=ru1 HE.out hlt he HK.out
    have HEe:Hid ((rErr (D k)).2≠0):=he
    rw [errV_some he] at hck
    generalize (rErr (D k)).1=z at hck HRu
    generalize (rErr (D k)).2=c at hck HRu HEe
    clear he
    go_wp2_with fail
    refine hck.mono ?_
    rintro e w2 ⟨rfl,hb2⟩
    have HB2:Hid (Below W.heap.size W w2):=onB HBw.out (onB HBo.out hb2)
    clear hb2 hck
    go_wp2_with fail
    go_returns
    rw [HRu.out]
    exact ⟨by rw [errV_some HEe.out];rfl,onB HB0.out HB2.out⟩
  ·have hke:k=n:=by omega
   subst hke
   have HRu:Hid (ruErr D k=(-1,-1,0)):=ru2 HE.out HK.out
   clear hBw
   go_wp2_with fail
   go_returns
   rw [HRu.out]
   exact ⟨rfl,onB HB0.out HBw.out⟩
noncomputable def cuErr (D:Nat→Dm) (n:Nat) (l:List En):Int:=if (ruErr D n).2.2≠0 then (ruErr D n).2.2 else entsErr D n l
theorem up_acyc {N:List (List Int)} (h:∀ (a:Int),∀ x∈rowN N a,a<x) (i:Nat):cycB N i=false:=by
 rw [cyc_not]
 intro hr
 have hlt:∀ {a b:Int},Rch N a b→a<b:=by
  intro a b hab
  induction hab with
  | one hx=>exact h _ _ hx
  | more hx _ ih=>have:=h _ _ hx;omega
 have:=hlt hr
 omega
def ToldP (D:Nat→Dm) (n:Nat) (p:List Int) (T:List Int):Prop:=T.Pairwise (· < ·)∧T.length≤12∧∀ z,z∈T↔∃ b:Nat,byTo D p n=(b:Int)∧∃ x∈mNd (D b) (p.getD b 0).toNat,z=numI D (p.set b x) n
end Go.Proofs.YtglekooldbeklaaGreatDoor
namespace Go.Proofs.YtglekooldbeklaaGreatDoor
section
variable {D:Nat→Dm} {n:Nat}
theorem told_less (hR:AllR D n) (hE:(allErr D n).2.2=0) {i:Nat} {T:List Int} (hT:ToldP D n (placeL D n i) T) {z:Int} (hz:z∈T):∃ j:Nat,z=(j:Int)∧j<prodN D n∧msrTo D (placeL D n j) n<msrTo D (placeL D n i) n:=by
 obtain ⟨b,hb,x,hx,rfl⟩:=(hT.2.2 z).1 hz
 have hI:InO D n (placeL D n i):=placeL_in hE
 have hbn:b<n:=by
  rcases by_in D (placeL D n i) n with h | ⟨b',h1,h2⟩
  ·omega
  ·omega
 have hxi:=mNd_in hx
 have hI2:=inO_set hI hbn hxi.1 hxi.2
 have hp0:=hI.lo b hbn
 have hp1:=hI.hi b hbn
 have hrk:=rk_less (hR b hbn) (i:=((placeL D n i).getD b 0).toNat) (by omega) hx
 rw [Int.toNat_of_nonneg hp0] at hrk
 have hms:=(msr_less (by rw [hI.len];exact hbn) hrk n).2 hbn
 obtain ⟨j,hj⟩:∃ j:Nat,numI D ((placeL D n i).set b x) n=(j:Int):=⟨(numI D ((placeL D n i).set b x) n).toNat,by have:=(numI_bound hI2 (Nat.le_refl n)).1;omega⟩
 refine ⟨j,hj,by have:=(numI_bound hI2 (Nat.le_refl n)).2.1;omega,?_⟩
 have hpn:=place_num hI2
 rw [hj,Int.toNat_natCast] at hpn
 rw [hpn]
 exact hms
end
end Go.Proofs.YtglekooldbeklaaGreatDoor
namespace Go.Proofs.YtglekooldbeklaaGreatDoor
open Go.ChangeShapes Go.WideShapes Go.ChangeAt Go.RowKit
section
variable {D:Nat→Dm} {n:Nat}
theorem told_inn (hR:AllR D n) (hE:(allErr D n).2.2=0) {N:List (List Int)} (hl:N.length=prodN D n) (hT:∀ i,i<prodN D n→ToldP D n (placeL D n i) (N.getD i [])):Inn N:=fun i hi x hx=>by
 obtain ⟨j,h1,h2,-⟩:=told_less hR hE (hT i (by omega)) hx
 omega
theorem told_acyc (hR:AllR D n) (hE:(allErr D n).2.2=0) {N:List (List Int)} (hl:N.length=prodN D n) (hT:∀ i,i<prodN D n→ToldP D n (placeL D n i) (N.getD i [])) (i:Nat) (hi:i<N.length):cycB N i=false:=by
 rw [cyc_not]
 intro hr
 have key:∀ {a b:Int},Rch N a b→∀ x:Nat,a=(x:Int)→x<prodN D n→∃ y:Nat,b=(y:Int)∧y<prodN D n∧msrTo D (placeL D n y) n<msrTo D (placeL D n x) n:=by
  intro a b hab
  induction hab with
  | one hx =>
   intro x hax hxn
   subst hax
   unfold rowN at hx
   rw [Int.toNat_natCast] at hx
   exact told_less hR hE (hT x hxn) hx
  | more hx _ ih =>
   intro x hax hxn
   subst hax
   unfold rowN at hx
   rw [Int.toNat_natCast] at hx
   obtain ⟨y,h1,h2,h3⟩:=told_less hR hE (hT x hxn) hx
   obtain ⟨z,h4,h5,h6⟩:=ih y h1 h2
   exact ⟨z,h4,h5,by omega⟩
 obtain ⟨y,h1,-,h3⟩:=key hr i rfl (by omega)
 have:y=i:=by omega
 subst this
 omega
end
section
variable {D:Nat→Dm} {n:Nat}
def StpN (D:Nat→Dm) (n i j:Nat):Prop := ∃ b:Nat,byTo D (placeL D n i) n=(b:Int)∧∃ x∈mNd (D b) ((placeL D n i).getD b 0).toNat,(j:Int)=numI D ((placeL D n i).set b x) n
theorem stp_iff {i j:Nat} {T:List Int} (hT:ToldP D n (placeL D n i) T):StpN D n i j↔(j:Int)∈T:=(hT.2.2 _).symm
end
end Go.Proofs.YtglekooldbeklaaGreatDoor
namespace Go.Proofs.YtglekooldbeklaaGreatDoor
open Go.ChangeShapes Go.WideShapes Go.ChangeAt Go.RowKit
set_option maxRecDepth 20000
def toldL (N:List ByteArray) (C:List (Int×Int)) (l:List Nd) (k:Nat):List (Int×Int):=(List.range k).map fun i=>valT N C (treeOf l i)
section
variable {N:List ByteArray} {C:List (Int×Int)} {l:List Nd} {k i:Nat}
theorem told_len:(toldL N C l k).length=k:=by simp [toldL]
theorem told_at (h:i<k):(toldL N C l k).getD i noC=valT N C (treeOf l i):=by simp [toldL,List.getD,h]
theorem told_next:toldL N C l (k+1)=toldL N C l k ++ [valT N C (treeOf l k)]:=by simp [toldL,List.range_succ]
theorem told_ok (hC:∀ c∈C,okC c):∀ c∈toldL N C l k,okC c:=by
 intro c hc
 simp only [toldL,List.mem_map] at hc
 obtain ⟨i,-,rfl⟩:=hc
 exact val_ok N hC _
theorem one_next (hl:RightL l) (hk:k<l.length) (hm:missR N l k=false):oneC N C (toldL N C l k) (l.getD k noN)=valT N C (treeOf l k)∧oneE N (l.getD k noN)=0:=by
 have ho:=op_range (hl k hk)
 by_cases h1:(l.getD k noN).op=1
 ·obtain ⟨e1,e2⟩:=one_numK (N:=N) (C:=C) (T:=toldL N C l k) h1
  rw [e1,e2,tree_num h1]
  exact ⟨rfl,rfl⟩
 by_cases h2:(l.getD k noN).op=2
 ·obtain ⟨e1,e2⟩:=one_ref (N:=N) (C:=C) (T:=toldL N C l k) h2
  unfold missR at hm
  rw [decide_eq_true h2,Bool.true_and] at hm
  have hw:=of_decide_eq_false hm
  rw [e1,e2,tree_ref h2]
  unfold isC isE
  rw [if_pos (by omega),if_pos (by omega)]
  exact ⟨rfl,rfl⟩
 ·obtain ⟨e1,e2⟩:=one_bin (N:=N) (C:=C) (T:=toldL N C l k) (x:=l.getD k noN) (by omega)
  obtain ⟨a1,a2,a3,a4⟩:=nd_sides (hl k hk) (by omega)
  rw [e1,e2,tree_bin hl hk (by omega),told_at (by omega),told_at (by omega)]
  exact ⟨rfl,rfl⟩
theorem one_miss (hm:missR N l k=true):oneE N (l.getD k noN)=5:=by
 simp only [missR,Bool.and_eq_true,decide_eq_true_eq] at hm
 rw [(one_ref (N:=N) (C:=[]) (T:=[]) hm.1).2]
 unfold isE
 rw [if_neg (by omega)]
end
theorem cel_own {w:World} {base:Nat} {v:Value} {T:List (Int×Int)} (h:w.ownsRow base 48 2 v T.length (cellsC T)):∃ A c,v=.slice A T.length c∧CelV w A c T:=by
 by_cases h0:0<T.length
 ·obtain ⟨g,c,rfl,-,h1,h2,h3⟩:=celB_own h h0
  exact ⟨_,_,rfl,h1,h2,Or.inr ⟨g,0,rfl,h3.celAt⟩⟩
 ·have hT:T=[]:=List.eq_nil_of_length_eq_zero (by omega)
  subst hT
  rcases h.2 with ⟨rfl,_⟩ | ⟨g,cap,cur,rfl,hb,hg,h4,h5,h6,h7⟩
  ·exact ⟨none,0,rfl,CelV.nil _ _ _ (by omega)⟩
  ·exact ⟨_,_,rfl,CelV.nil _ _ _ (by unfold maxLen at h5;omega)⟩
theorem news2 {w:World} {n:Nat} (hn:w.heap.size=n) (c:Int×Int):∀ j u,(cellsC [c])[j]?=some u→(w.alloc (.cells #[.int .i64 c.1,.int .i64 c.2] 48)).cell? ((⟨n,0,none⟩:Addr).add j)=some u:=by
 subst hn
 exact World.news_of_block (cs := #[.int .i64 c.1,.int .i64 c.2]) (t:=48) (fr:=(0,0)) (heap_alloc_new _ _)
theorem AskN.later {fn q r:Nat} {w w':World} {N:List ByteArray} {C:List (Int×Int)} (h:AskN fn q r w N C) (hB:Below w.heap.size w w'):AskN fn q r w' N C:=fun x w'' hb=>h x w'' (onB hB hb)
set_option maxHeartbeats 4000000 in
theorem comes_any (fn q r:Nat) (hent:∀ (args:Array Value) (w:World),(callFunc fn args).run Tryz.prog w=.ok (.enter fn args) w) (N:List ByteArray) (C:List (Int×Int)) (A:Option Addr) (cap:Nat) (l:List Nd) (w:World) (hN:NdsV w A cap l) (hl:formErr l=0) (hC:∀ c∈C,okC c) (hask:AskN fn q r w N C) :
  Calls Tryz.prog 113 #[.slice A l.length cap,.func (.func fn) #[] #[.pointer (some ⟨q,0,none⟩),.pointer (some ⟨r,0,none⟩)]] w fun e w'=>e=.returned (.tuple #[.agg #[.int .i64 (if missT N (treeOf l (l.length-1))=true then noC else valT N C (treeOf l (l.length-1))).1,.int .i64 (if missT N (treeOf l (l.length-1))=true then noC else valT N C (treeOf l (l.length-1))).2],errV (if missT N (treeOf l (l.length-1))=true then 5 else 0)])∧Below w.heap.size w w':=by
 obtain ⟨i0,hi0,hz0,hz1,hz2⟩:=info_parts Tryz.infoCe
 obtain ⟨hp,h30,hg,-⟩:=form_right hl
 obtain ⟨-,-,h1 | ⟨b,o,rfl,hNA⟩⟩:=hN
 ·rw [h1] at hp;simp at hp
 obtain ⟨R,hR⟩:∃ R,(if missT N (treeOf l (l.length-1))=true then noC else valT N C (treeOf l (l.length-1)))=R:=⟨_,rfl⟩
 obtain ⟨E,hE⟩:∃ E:Int,(if missT N (treeOf l (l.length-1))=true then 5 else 0)=E:=⟨_,rfl⟩
 have HMiss:Hid (∀ i,i<l.length→missR N l i=true→R=noC∧E=5):=fun i hi hm=>by
  rw [←hR,←hE,if_pos (miss_yes hl hi hm),if_pos (miss_yes hl hi hm)]
  exact ⟨rfl,rfl⟩
 have HGood:Hid ((∀ i,i<l.length→missR N l i=false)→R=valT N C (treeOf l (l.length-1))∧E=0):=fun hm=>by
  rw [←hR,←hE,miss_no hl hm]
  exact ⟨rfl,rfl⟩
 rw [hR,hE]
 have HN:Hid (NdsAt w b o l):=hNA
 have HL:Hid (RightL l):=hg
 have HC:Hid (∀ c∈C,okC c):=hC
 have HA:Hid (AskN fn q r w N C):=hask
 have HEnt:Hid (∀ (args:Array Value) (w:World),(callFunc fn args).run Tryz.prog w=.ok (.enter fn args) w):=hent
 obtain ⟨n,hn⟩:∃ n,l.length=n:=⟨_,rfl⟩
 have HLn:Hid (l.length=n):=hn
 rw [hn] at h30 hp ⊢
 have hni:(n:Int)≤30:=by omega
 have hn0:0<(n:Int):=by omega
 clear hl hNA hC hask hg hR hE hn hent
 go_enter Tryz.func113,Tryz.ntmps113
 obtain ⟨W0,hW0⟩:∃ W0,w.alloc (.cells #[.int .i64 0,.int .i64 0] 48)=W0:=⟨_,rfl⟩
 have hsW:W0.heap.size=w.heap.size+1:=by rw [←hW0];simp
 have hBW:Below w.heap.size w W0:=by rw [←hW0];exact (Below.refl _ _).alloc (Nat.le_refl _) _
 have HBW:Hid (Below w.heap.size w W0):=hBW
 have hA0:W0.heap[w.heap.size]?=some (.cells #[.int .i64 0,.int .i64 0] 48 (0,0)):=by rw [←hW0];exact heap_alloc_new _ _
 have HA0:Hid (W0.heap[w.heap.size]?=some (.cells #[.int .i64 0,.int .i64 0] 48 (0,0))):=hA0
 have HSW:Hid (W0.heap.size=w.heap.size+1):=hsW
 clear hBW hA0 hsW
 go_wp2_with (at_make;refine wpList_make_own _ rfl _ _ 37 rfl (w.heap.size+1) 48 i0 _ 2 Tryz.underlying37 hi0 hz0 hz1 _ _ _ n rfl rfl rfl ?qb1 ?qb2 ?qb3 ?_)
 case qb1=>rw [hz2];omega
 case qb2=>unfold maxLen;omega
 case qb3=>rw [HSW.out];exact Nat.le_refl _
 intro w1 hown1 hgrow1
 have hB1:Below W0.heap.size W0 w1:=⟨hgrow1.os,hgrow1.tape,hgrow1.output,hgrow1.size,fun k hk=>hgrow1.block k hk (by simp)⟩
 have HB1:Hid (Below W0.heap.size W0 w1):=hB1
 have HO1:=hid_of hown1
 clear hown1 hgrow1 hB1 hW0
 go_wp2_with fail
 go_loopg [6,16] n (fun g s6 s16 wr => ∃ (k:Nat),k≤n∧g=n-k∧s16=.int .i64 k∧wr.ownsRow (w.heap.size+1) 48 2 s6 (toldL N C l k).length (cellsC (toldL N C l k))∧(∀ j,j<k→missR N l j=false)∧Below W0.heap.size W0 wr)
 case atStart=>exact ⟨0,Nat.zero_le _,rfl,rfl,HO1.out,fun j hj=>absurd hj (Nat.not_lt_zero j),HB1.out⟩
 case round =>
  obtain ⟨k,hk,rfl,rfl,hown,hms,hBw⟩:=hrel
  obtain ⟨At,ct,rfl,hCel⟩:=cel_own hown
  have HO:Hid (wr.ownsRow (w.heap.size+1) 48 2 (.slice At (toldL N C l k).length ct) (toldL N C l k).length (cellsC (toldL N C l k))):=hown
  have HMs:Hid (∀ j,j<k→missR N l j=false):=hms
  have HW:Hid (Below W0.heap.size W0 wr):=hBw
  have HCel:Hid (CelV wr At ct (toldL N C l k)):=hCel
  have HBr:Hid (Below w.heap.size w wr):=onB HBW.out hBw
  have hsz:=hBw.size
  clear hown hms hBw hCel
  by_cases hlt:k<n
  ·have hki:(k:Int)<(n:Int):=by omega
   obtain ⟨x0,x1,x2,x3,x4⟩:=(HN.out.later HBr.out).nd (k:=k) (by rw [HLn.out];exact hlt)
   have hbl:b<w.heap.size:=HN.out.1
   have hgk:=HL.out k (by rw [HLn.out];exact hlt)
   have hone:=fun w' (hb:Below wr.heap.size wr w')=>rkone_any fn q r HEnt.out N C (toldL N C l k) At ct (l.getD k noN) w' (by rw [told_len];exact hgk) (by rw [told_len];omega) (HCel.out.later hb) (told_ok HC.out) (HA.out.later (onB HBr.out hb))
   rw [told_len] at hone ⊢
   obtain ⟨x,hx⟩:∃ x,l.getD k noN=x:=⟨_,rfl⟩
   have HX:Hid (l.getD k noN=x):=hx
   rw [hx] at x0 x1 x2 x3 x4 hone
   rw [ndV_def] at hone
   clear hx hgk
   cases hm:missR N l k
   ·obtain ⟨e1,e2⟩:=one_next (C:=C) HL.out (by rw [HLn.out];exact hlt) hm
    rw [HX.out] at e1 e2
    rw [e1,e2,errV_zero] at hone
    obtain ⟨c,hc⟩:∃ c,valT N C (treeOf l k)=c:=⟨_,rfl⟩
    have HCv:Hid (valT N C (treeOf l k)=c):=hc
    have HM:Hid (missR N l k=false):=hm
    rw [hc] at hone
    clear e1 e2 hc hm
    go_wp2_with fail
    refine (hone _ (by go_grown)).mono ?_
    rintro e w2 ⟨rfl,hb2⟩
    have hb3:Below wr.heap.size wr w2:=onB (by go_grown) hb2
    have HB3:Hid (Below W0.heap.size W0 w2):=onB HW.out hb3
    have HO3:Hid (w2.ownsRow (w.heap.size+1) 48 2 (.slice At k ct) k (cellsC (toldL N C l k))):=by have h:=own_later HO.out hb3;rw [told_len] at h;exact h
    have hz2':=hb3.size
    clear hb2 hb3 hone
    go_wp2_with (at_builtin;refine wpList_append_own _ rfl _ _ 37 rfl (w.heap.size+1) 48 i0 _ 2 16 Tryz.underlying37 hi0 hz0 hz1 hz2 rfl (by decide) _ k _ rfl (own_later HO3.out ?qc0) ⟨w2.heap.size+1,0,none⟩ 1 1 (cellsC [c]) rfl rfl ?qc1 (cellsC_one _) ?qc2 ?qc3 ?qc4 ?_)
    case qc0=>go_grown
    case qc1=>exact news2 (by simp) c
    case qc2=>unfold maxLen;omega
    case qc3=>omega
    case qc4=>have:=HSW.out;simp;omega
    intro v4 w4 hown4 hgrow4 _
    have HB4:Hid (Below W0.heap.size W0 w4):=((HB3.out.alloc HB3.out.size _).alloc (by have:=HB3.out.size;simp;omega) _).grown hgrow4 (by have:=HB3.out.size;simp;omega) (fun j hj=>by have h1:=(HO3.out.lt j hj).1;have h2:=HSW.out;omega)
    have HO4:Hid (w4.ownsRow (w.heap.size+1) 48 2 v4 (toldL N C l (k+1)).length (cellsC (toldL N C l (k+1)))):=by
     show World.ownsRow ..
     rw [told_next,cellsC_append,List.length_append,told_len,HCv.out]
     exact hown4
    clear hown4 hgrow4
    go_wp2_with fail
    go_roundg (n-(k+1))
    case measure=>omega
    case rel=>exact ⟨k+1,by omega,rfl,by go_num,HO4.out,fun j hj=>by rcases Nat.lt_succ_iff_lt_or_eq.1 hj with h | h;exact HMs.out j h;rw [h];exact HM.out,HB4.out⟩
   ·have e2:=one_miss (N:=N) (l:=l) (k:=k) hm
    rw [HX.out] at e2
    rw [e2,errV_some (by decide)] at hone
    obtain ⟨hR,hE⟩:=HMiss.out k (by rw [HLn.out];exact hlt) hm
    have HR:Hid (R=noC):=hR
    have HE:Hid (E=5):=hE
    obtain ⟨c,hc⟩:∃ c,oneC N C (toldL N C l k) x=c:=⟨_,rfl⟩
    rw [hc] at hone
    clear e2 hc hm hR hE
    go_wp2_with fail
    refine (hone _ (by go_grown)).mono ?_
    rintro e w2 ⟨rfl,hb2⟩
    have hb3:Below wr.heap.size wr w2:=onB (by go_grown) hb2
    have HB3:Hid (Below W0.heap.size W0 w2):=onB HW.out hb3
    have hz2':=hb3.size
    have hr:=(HB3.out.block w.heap.size (by have:=HSW.out;omega)).trans HA0.out
    have r1:w.heap.size<w2.heap.size:=(Array.getElem?_eq_some_iff.1 hr).1
    have r2:w2.cell? ⟨w.heap.size,0,none⟩=some (.int .i64 0):=by simp [World.cell?,hr]
    have r3:w2.cell? ⟨w.heap.size,1,none⟩=some (.int .i64 0):=by simp [World.cell?,hr]
    have rf0:w2.frozen? ⟨w.heap.size,0,none⟩=false:=by simp [World.frozen?,hr]
    have rf1:w2.frozen? ⟨w.heap.size,1,none⟩=false:=by simp [World.frozen?,hr]
    clear hr
    clear hb2 hb3 hone
    go_wp2_with fail
    refine bodyPost_ret (v:=.tuple #[.agg #[.int .i64 R.1,.int .i64 R.2],errV E]) (by rw [HR.out,HE.out];simp [results,Tryz.results113,go_sem,r2,r3,r1,noC,errV_some]) rfl ⟨rfl,?_⟩
    have hf:=onB HBW.out HB3.out
    first | exact ((hf.setCell (Nat.le_refl _) _).setCell (Nat.le_refl _) _).alloc (by have:=hf.size;simp;omega) _ | exact (((hf.alloc hf.size _).setCell (Nat.le_refl _) _).setCell (Nat.le_refl _) _)
  ·have hke:k=n:=by omega
   subst hke
   obtain ⟨hR,hE⟩:=HGood.out (fun i hi=>HMs.out i (by rw [←HLn.out];exact hi))
   have HE:Hid (E=0):=hE
   have hkk:(toldL N C l k).length=k:=told_len
   obtain ⟨-,-,h0 | ⟨g,og,rfl,hCA⟩⟩:=HCel.out
   ·rw [h0] at hkk;simp at hkk;omega
   obtain ⟨y0,y1⟩:=hCA.2 (k-1) (by rw [told_len];omega)
   have hgl:=hCA.1
   rw [told_at (by omega)] at y0 y1
   rw [HLn.out] at hR
   rw [←hR] at y0 y1
   have hr:=(HW.out.block w.heap.size (by have:=HSW.out;omega)).trans HA0.out
   have r1:w.heap.size<wr.heap.size:=(Array.getElem?_eq_some_iff.1 hr).1
   have r2:wr.cell? ⟨w.heap.size,0,none⟩=some (.int .i64 0):=by simp [World.cell?,hr]
   have r3:wr.cell? ⟨w.heap.size,1,none⟩=some (.int .i64 0):=by simp [World.cell?,hr]
   have rf0:wr.frozen? ⟨w.heap.size,0,none⟩=false:=by simp [World.frozen?,hr]
   have rf1:wr.frozen? ⟨w.heap.size,1,none⟩=false:=by simp [World.frozen?,hr]
   obtain ⟨m,hm⟩:∃ m,k-1=m:=⟨_,rfl⟩
   rw [hm] at y0 y1
   have hsub:(k:Int)-1=(m:Int):=by omega
   have hmk:(m:Int)<(k:Int):=by omega
   rw [hkk]
   clear hr hCA hR hE hkk hm
   go_wp2_with fail
   refine bodyPost_ret (v:=.tuple #[.agg #[.int .i64 R.1,.int .i64 R.2],errV E]) (by rw [HE.out];simp [results,Tryz.results113,go_sem,r2,r3,errV_zero]) rfl ⟨rfl,?_⟩
   exact (HBr.out.setCell (Nat.le_refl _) _).setCell (Nat.le_refl _) _
end Go.Proofs.YtglekooldbeklaaGreatDoor
