/-
  What comes of package reckon answers: what a formula that is right comes to, or that one of its names is none.
-/
import Derived.Test.YtnlfpaopfloklaaGreatDoorJEBB
import Derived.Test.YtnlfpaopfloklaaGreatDoorJEBC
namespace Go.Proofs.YtnlfpaopfloklaaGreatDoor
open Go.ChangeShapes Go.WideShapes Go.ChangeAt Go.RowKit
set_option maxRecDepth 20000
def toldL (N:List ByteArray) (C:List (Int×Int)) (l:List Nd) (k:Nat):List (Int×Int):=(List.range k).map fun i=>valT N C (treeOf l i)
section
variable {N:List ByteArray} {C:List (Int×Int)} {l:List Nd} {k i:Nat}
theorem told_len:(toldL N C l k).length=k:=by simp [toldL]
theorem told_at (h:i<k):(toldL N C l k).getD i noC=valT N C (treeOf l i):=by simp [toldL,List.getD,h]
theorem told_next:toldL N C l (k+1)=toldL N C l k ++ [valT N C (treeOf l k)]:=by simp [toldL,List.range_succ]
theorem told_ok (hC:∀ c∈C,okC c):∀ c∈toldL N C l k,okC c:=by
 intro c hc
 simp only [toldL,List.mem_map] at hc
 obtain ⟨i,-,rfl⟩:=hc
 exact val_ok N hC _
theorem one_next (hl:RightL l) (hk:k<l.length) (hm:missR N l k=false):oneC N C (toldL N C l k) (l.getD k noN)=valT N C (treeOf l k)∧oneE N (l.getD k noN)=0:=by
 have ho:=op_range (hl k hk)
 by_cases h1:(l.getD k noN).op=1
 ·obtain ⟨e1,e2⟩:=one_numK (N:=N) (C:=C) (T:=toldL N C l k) h1
  rw [e1,e2,tree_num h1]
  exact ⟨rfl,rfl⟩
 by_cases h2:(l.getD k noN).op=2
 ·obtain ⟨e1,e2⟩:=one_ref (N:=N) (C:=C) (T:=toldL N C l k) h2
  unfold missR at hm
  rw [decide_eq_true h2,Bool.true_and] at hm
  have hw:=of_decide_eq_false hm
  rw [e1,e2,tree_ref h2]
  unfold isC isE
  rw [if_pos (by omega),if_pos (by omega)]
  exact ⟨rfl,rfl⟩
 ·obtain ⟨e1,e2⟩:=one_bin (N:=N) (C:=C) (T:=toldL N C l k) (x:=l.getD k noN) (by omega)
  obtain ⟨a1,a2,a3,a4⟩:=nd_sides (hl k hk) (by omega)
  rw [e1,e2,tree_bin hl hk (by omega),told_at (by omega),told_at (by omega)]
  exact ⟨rfl,rfl⟩
theorem one_miss (hm:missR N l k=true):oneE N (l.getD k noN)=5:=by
 simp only [missR,Bool.and_eq_true,decide_eq_true_eq] at hm
 rw [(one_ref (N:=N) (C:=[]) (T:=[]) hm.1).2]
 unfold isE
 rw [if_neg (by omega)]
end
theorem cel_own {w:World} {base:Nat} {v:Value} {T:List (Int×Int)} (h:w.ownsRow base 58 2 v T.length (cellsC T)):∃ A c,v=.slice A T.length c∧CelV w A c T:=by
 by_cases h0:0<T.length
 ·obtain ⟨g,c,rfl,-,h1,h2,h3⟩:=celB_own h h0
  exact ⟨_,_,rfl,h1,h2,Or.inr ⟨g,0,rfl,h3.celAt⟩⟩
 ·have hT:T=[]:=List.eq_nil_of_length_eq_zero (by omega)
  subst hT
  rcases h.2 with ⟨rfl,_⟩ | ⟨g,cap,cur,rfl,hb,hg,h4,h5,h6,h7⟩
  ·exact ⟨none,0,rfl,CelV.nil _ _ _ (by omega)⟩
  ·exact ⟨_,_,rfl,CelV.nil _ _ _ (by unfold maxLen at h5;omega)⟩
theorem news2 {w:World} {n:Nat} (hn:w.heap.size=n) (c:Int×Int):∀ j u,(cellsC [c])[j]?=some u→(w.alloc (.cells #[.int .i64 c.1,.int .i64 c.2] 58)).cell? ((⟨n,0,none⟩:Addr).add j)=some u:=by
 subst hn
 exact World.news_of_block (cs := #[.int .i64 c.1,.int .i64 c.2]) (t:=58) (fr:=(0,0)) (heap_alloc_new _ _)
theorem AskN.later {fn q r:Nat} {w w':World} {N:List ByteArray} {C:List (Int×Int)} (h:AskN fn q r w N C) (hB:Below w.heap.size w w'):AskN fn q r w' N C:=fun x w'' hb=>h x w'' (onB hB hb)
set_option maxHeartbeats 4000000 in
theorem comes_any (fn q r:Nat) (hent:∀ (args:Array Value) (w:World),(callFunc fn args).run Tryz.prog w=.ok (.enter fn args) w) (N:List ByteArray) (C:List (Int×Int)) (A:Option Addr) (cap:Nat) (l:List Nd) (w:World) (hN:NdsV w A cap l) (hl:formErr l=0) (hC:∀ c∈C,okC c) (hask:AskN fn q r w N C) :
  Calls Tryz.prog 91 #[.slice A l.length cap,.func (.func fn) #[] #[.pointer (some ⟨q,0,none⟩),.pointer (some ⟨r,0,none⟩)]] w fun e w'=>e=.returned (.tuple #[.agg #[.int .i64 (if missT N (treeOf l (l.length-1))=true then noC else valT N C (treeOf l (l.length-1))).1,.int .i64 (if missT N (treeOf l (l.length-1))=true then noC else valT N C (treeOf l (l.length-1))).2],errV (if missT N (treeOf l (l.length-1))=true then 5 else 0)])∧Below w.heap.size w w':=by
 obtain ⟨i0,hi0,hz0,hz1,hz2⟩:=info_parts Tryz.infoCe
 obtain ⟨hp,h30,hg,-⟩:=form_right hl
 obtain ⟨-,-,h1 | ⟨b,o,rfl,hNA⟩⟩:=hN
 ·rw [h1] at hp;simp at hp
 obtain ⟨R,hR⟩:∃ R,(if missT N (treeOf l (l.length-1))=true then noC else valT N C (treeOf l (l.length-1)))=R:=⟨_,rfl⟩
 obtain ⟨E,hE⟩:∃ E:Int,(if missT N (treeOf l (l.length-1))=true then 5 else 0)=E:=⟨_,rfl⟩
 have HMiss:Hid (∀ i,i<l.length→missR N l i=true→R=noC∧E=5):=fun i hi hm=>by
  rw [←hR,←hE,if_pos (miss_yes hl hi hm),if_pos (miss_yes hl hi hm)]
  exact ⟨rfl,rfl⟩
 have HGood:Hid ((∀ i,i<l.length→missR N l i=false)→R=valT N C (treeOf l (l.length-1))∧E=0):=fun hm=>by
  rw [←hR,←hE,miss_no hl hm]
  exact ⟨rfl,rfl⟩
 rw [hR,hE]
 have HN:Hid (NdsAt w b o l):=hNA
 have HL:Hid (RightL l):=hg
 have HC:Hid (∀ c∈C,okC c):=hC
 have HA:Hid (AskN fn q r w N C):=hask
 have HEnt:Hid (∀ (args:Array Value) (w:World),(callFunc fn args).run Tryz.prog w=.ok (.enter fn args) w):=hent
 obtain ⟨n,hn⟩:∃ n,l.length=n:=⟨_,rfl⟩
 have HLn:Hid (l.length=n):=hn
 rw [hn] at h30 hp ⊢
 have hni:(n:Int)≤30:=by omega
 have hn0:0<(n:Int):=by omega
 clear hl hNA hC hask hg hR hE hn hent
 go_enter Tryz.func91,Tryz.ntmps91
 obtain ⟨W0,hW0⟩:∃ W0,w.alloc (.cells #[.int .i64 0,.int .i64 0] 58)=W0:=⟨_,rfl⟩
 have hsW:W0.heap.size=w.heap.size+1:=by rw [←hW0];simp
 have hBW:Below w.heap.size w W0:=by rw [←hW0];exact (Below.refl _ _).alloc (Nat.le_refl _) _
 have HBW:Hid (Below w.heap.size w W0):=hBW
 have hA0:W0.heap[w.heap.size]?=some (.cells #[.int .i64 0,.int .i64 0] 58 (0,0)):=by rw [←hW0];exact heap_alloc_new _ _
 have HA0:Hid (W0.heap[w.heap.size]?=some (.cells #[.int .i64 0,.int .i64 0] 58 (0,0))):=hA0
 have HSW:Hid (W0.heap.size=w.heap.size+1):=hsW
 clear hBW hA0 hsW
 go_wp2_with (at_make;refine wpList_make_own _ rfl _ _ 42 rfl (w.heap.size+1) 58 i0 _ 2 Tryz.underlying42 hi0 hz0 hz1 _ _ _ n rfl rfl rfl ?qb1 ?qb2 ?qb3 ?_)
 case qb1=>rw [hz2];omega
 case qb2=>unfold maxLen;omega
 case qb3=>rw [HSW.out];exact Nat.le_refl _
 intro w1 hown1 hgrow1
 have hB1:Below W0.heap.size W0 w1:=⟨hgrow1.os,hgrow1.tape,hgrow1.output,hgrow1.size,fun k hk=>hgrow1.block k hk (by simp)⟩
 have HB1:Hid (Below W0.heap.size W0 w1):=hB1
 have HO1:=hid_of hown1
 clear hown1 hgrow1 hB1 hW0
 go_wp2_with fail
 go_loopg [6,16] n (fun g s6 s16 wr => ∃ (k:Nat),k≤n∧g=n-k∧s16=.int .i64 k∧wr.ownsRow (w.heap.size+1) 58 2 s6 (toldL N C l k).length (cellsC (toldL N C l k))∧(∀ j,j<k→missR N l j=false)∧Below W0.heap.size W0 wr)
 case atStart=>exact ⟨0,Nat.zero_le _,rfl,rfl,HO1.out,fun j hj=>absurd hj (Nat.not_lt_zero j),HB1.out⟩
 case round =>
  obtain ⟨k,hk,rfl,rfl,hown,hms,hBw⟩:=hrel
  obtain ⟨At,ct,rfl,hCel⟩:=cel_own hown
  have HO:Hid (wr.ownsRow (w.heap.size+1) 58 2 (.slice At (toldL N C l k).length ct) (toldL N C l k).length (cellsC (toldL N C l k))):=hown
  have HMs:Hid (∀ j,j<k→missR N l j=false):=hms
  have HW:Hid (Below W0.heap.size W0 wr):=hBw
  have HCel:Hid (CelV wr At ct (toldL N C l k)):=hCel
  have HBr:Hid (Below w.heap.size w wr):=onB HBW.out hBw
  have hsz:=hBw.size
  clear hown hms hBw hCel
  by_cases hlt:k<n
  ·have hki:(k:Int)<(n:Int):=by omega
   obtain ⟨x0,x1,x2,x3,x4⟩:=(HN.out.later HBr.out).nd (k:=k) (by rw [HLn.out];exact hlt)
   have hbl:b<w.heap.size:=HN.out.1
   have hgk:=HL.out k (by rw [HLn.out];exact hlt)
   have hone:=fun w' (hb:Below wr.heap.size wr w')=>rkone_any fn q r HEnt.out N C (toldL N C l k) At ct (l.getD k noN) w' (by rw [told_len];exact hgk) (by rw [told_len];omega) (HCel.out.later hb) (told_ok HC.out) (HA.out.later (onB HBr.out hb))
   rw [told_len] at hone ⊢
   obtain ⟨x,hx⟩:∃ x,l.getD k noN=x:=⟨_,rfl⟩
   have HX:Hid (l.getD k noN=x):=hx
   rw [hx] at x0 x1 x2 x3 x4 hone
   rw [ndV_def] at hone
   clear hx hgk
   cases hm:missR N l k
   ·obtain ⟨e1,e2⟩:=one_next (C:=C) HL.out (by rw [HLn.out];exact hlt) hm
    rw [HX.out] at e1 e2
    rw [e1,e2,errV_zero] at hone
    obtain ⟨c,hc⟩:∃ c,valT N C (treeOf l k)=c:=⟨_,rfl⟩
    have HCv:Hid (valT N C (treeOf l k)=c):=hc
    have HM:Hid (missR N l k=false):=hm
    rw [hc] at hone
    clear e1 e2 hc hm
    go_wp2_with fail
    refine (hone _ (by go_grown)).mono ?_
    rintro e w2 ⟨rfl,hb2⟩
    have hb3:Below wr.heap.size wr w2:=onB (by go_grown) hb2
    have HB3:Hid (Below W0.heap.size W0 w2):=onB HW.out hb3
    have HO3:Hid (w2.ownsRow (w.heap.size+1) 58 2 (.slice At k ct) k (cellsC (toldL N C l k))):=by have h:=own_later HO.out hb3;rw [told_len] at h;exact h
    have hz2':=hb3.size
    clear hb2 hb3 hone
    go_wp2_with (at_builtin;refine wpList_append_own _ rfl _ _ 42 rfl (w.heap.size+1) 58 i0 _ 2 16 Tryz.underlying42 hi0 hz0 hz1 hz2 rfl (by decide) _ k _ rfl (own_later HO3.out ?qc0) ⟨w2.heap.size+1,0,none⟩ 1 1 (cellsC [c]) rfl rfl ?qc1 (cellsC_one _) ?qc2 ?qc3 ?qc4 ?_)
    case qc0=>go_grown
    case qc1=>exact news2 (by simp) c
    case qc2=>unfold maxLen;omega
    case qc3=>omega
    case qc4=>have:=HSW.out;simp;omega
    intro v4 w4 hown4 hgrow4 _
    have HB4:Hid (Below W0.heap.size W0 w4):=((HB3.out.alloc HB3.out.size _).alloc (by have:=HB3.out.size;simp;omega) _).grown hgrow4 (by have:=HB3.out.size;simp;omega) (fun j hj=>by have h1:=(HO3.out.lt j hj).1;have h2:=HSW.out;omega)
    have HO4:Hid (w4.ownsRow (w.heap.size+1) 58 2 v4 (toldL N C l (k+1)).length (cellsC (toldL N C l (k+1)))):=by
     show World.ownsRow ..
     rw [told_next,cellsC_append,List.length_append,told_len,HCv.out]
     exact hown4
    clear hown4 hgrow4
    go_wp2_with fail
    go_roundg (n-(k+1))
    case measure=>omega
    case rel=>exact ⟨k+1,by omega,rfl,by go_num,HO4.out,fun j hj=>by rcases Nat.lt_succ_iff_lt_or_eq.1 hj with h | h;exact HMs.out j h;rw [h];exact HM.out,HB4.out⟩
   ·have e2:=one_miss (N:=N) (l:=l) (k:=k) hm
    rw [HX.out] at e2
    rw [e2,errV_some (by decide)] at hone
    obtain ⟨hR,hE⟩:=HMiss.out k (by rw [HLn.out];exact hlt) hm
    have HR:Hid (R=noC):=hR
    have HE:Hid (E=5):=hE
    obtain ⟨c,hc⟩:∃ c,oneC N C (toldL N C l k) x=c:=⟨_,rfl⟩
    rw [hc] at hone
    clear e2 hc hm hR hE
    go_wp2_with fail
    refine (hone _ (by go_grown)).mono ?_
    rintro e w2 ⟨rfl,hb2⟩
    have hb3:Below wr.heap.size wr w2:=onB (by go_grown) hb2
    have HB3:Hid (Below W0.heap.size W0 w2):=onB HW.out hb3
    have hz2':=hb3.size
    have hr:=(HB3.out.block w.heap.size (by have:=HSW.out;omega)).trans HA0.out
    have r1:w.heap.size<w2.heap.size:=(Array.getElem?_eq_some_iff.1 hr).1
    have r2:w2.cell? ⟨w.heap.size,0,none⟩=some (.int .i64 0):=by simp [World.cell?,hr]
    have r3:w2.cell? ⟨w.heap.size,1,none⟩=some (.int .i64 0):=by simp [World.cell?,hr]
    have rf0:w2.frozen? ⟨w.heap.size,0,none⟩=false:=by simp [World.frozen?,hr]
    have rf1:w2.frozen? ⟨w.heap.size,1,none⟩=false:=by simp [World.frozen?,hr]
    clear hr
    clear hb2 hb3 hone
    go_wp2_with fail
    refine bodyPost_ret (v:=.tuple #[.agg #[.int .i64 R.1,.int .i64 R.2],errV E]) (by rw [HR.out,HE.out];simp [results,Tryz.results91,go_sem,r2,r3,r1,noC,errV_some]) rfl ⟨rfl,?_⟩
    have hf:=onB HBW.out HB3.out
    first | exact ((hf.setCell (Nat.le_refl _) _).setCell (Nat.le_refl _) _).alloc (by have:=hf.size;simp;omega) _ | exact (((hf.alloc hf.size _).setCell (Nat.le_refl _) _).setCell (Nat.le_refl _) _)
  ·have hke:k=n:=by omega
   subst hke
   obtain ⟨hR,hE⟩:=HGood.out (fun i hi=>HMs.out i (by rw [←HLn.out];exact hi))
   have HE:Hid (E=0):=hE
   have hkk:(toldL N C l k).length=k:=told_len
   obtain ⟨-,-,h0 | ⟨g,og,rfl,hCA⟩⟩:=HCel.out
   ·rw [h0] at hkk;simp at hkk;omega
   obtain ⟨y0,y1⟩:=hCA.2 (k-1) (by rw [told_len];omega)
   have hgl:=hCA.1
   rw [told_at (by omega)] at y0 y1
   rw [HLn.out] at hR
   rw [←hR] at y0 y1
   have hr:=(HW.out.block w.heap.size (by have:=HSW.out;omega)).trans HA0.out
   have r1:w.heap.size<wr.heap.size:=(Array.getElem?_eq_some_iff.1 hr).1
   have r2:wr.cell? ⟨w.heap.size,0,none⟩=some (.int .i64 0):=by simp [World.cell?,hr]
   have r3:wr.cell? ⟨w.heap.size,1,none⟩=some (.int .i64 0):=by simp [World.cell?,hr]
   have rf0:wr.frozen? ⟨w.heap.size,0,none⟩=false:=by simp [World.frozen?,hr]
   have rf1:wr.frozen? ⟨w.heap.size,1,none⟩=false:=by simp [World.frozen?,hr]
   obtain ⟨m,hm⟩:∃ m,k-1=m:=⟨_,rfl⟩
   rw [hm] at y0 y1
   have hsub:(k:Int)-1=(m:Int):=by omega
   have hmk:(m:Int)<(k:Int):=by omega
   rw [hkk]
   clear hr hCA hR hE hkk hm
   go_wp2_with fail
   refine bodyPost_ret (v:=.tuple #[.agg #[.int .i64 R.1,.int .i64 R.2],errV E]) (by rw [HE.out];simp [results,Tryz.results91,go_sem,r2,r3,errV_zero]) rfl ⟨rfl,?_⟩
   exact (HBr.out.setCell (Nat.le_refl _) _).setCell (Nat.le_refl _) _
theorem ent_value1 (args:Array Value) (w:World):(callFunc 92 args).run Tryz.prog w=.ok (.enter 92 args) w:=by simp [go_sem]
theorem val_form {l:List Nd} {N:List ByteArray} {C:List (Int×Int)} (h:formErr l≠0):valE l N C=formErr l∧valC l N C=noC:=by
 have e:valE l N C=formErr l:=by unfold valE;rw [if_pos h]
 exact ⟨e,by unfold valC;rw [e,if_neg h]⟩
theorem val_ck {l:List Nd} {N:List ByteArray} {C:List (Int×Int)} (h:formErr l=0) (h1:ckErr N C≠0):valE l N C=ckErr N C∧valC l N C=noC:=by
 have e:valE l N C=ckErr N C:=by unfold valE;rw [if_neg (by simpa using h),if_pos h1]
 exact ⟨e,by unfold valC;rw [e,if_neg h1]⟩
theorem val_all {l:List Nd} {N:List ByteArray} {C:List (Int×Int)} (h:formErr l=0) (h1:ckErr N C=0):valE l N C=(if missT N (treeOf l (l.length-1))=true then 5 else 0)∧valC l N C=(if missT N (treeOf l (l.length-1))=true then noC else valT N C (treeOf l (l.length-1))):=by
 have e:valE l N C=(if missT N (treeOf l (l.length-1))=true then 5 else 0):=by unfold valE;rw [if_neg (by simpa using h),if_neg (by simpa using h1)]
 refine ⟨e,?_⟩
 unfold valC
 rw [e]
 cases missT N (treeOf l (l.length-1))
 ·rfl
 ·rfl
set_option maxHeartbeats 4000000 in
theorem value_any (A:Option Addr) (cap:Nat) (l:List Nd) (An:Option Addr) (cn:Nat) (N:List ByteArray) (Ac:Option Addr) (cc:Nat) (C:List (Int×Int)) (w:World) (hL:NdsV w A cap l) (hN:NmV w An cn N) (hC:CelV w Ac cc C) :
  Calls Tryz.prog 67 #[.slice A l.length cap,.slice An N.length cn,.slice Ac C.length cc] w fun e w'=>e=.returned (.tuple #[.agg #[.int .i64 (valC l N C).1,.int .i64 (valC l N C).2],errV (valE l N C)])∧Below w.heap.size w w':=by
 have hck:=fun w' (hb:Below w.heap.size w w')=>fchk_any A cap l w' (hL.later hb)
 by_cases h0:formErr l=0
 case neg =>
  obtain ⟨e1,e2⟩:=val_form (N:=N) (C:=C) h0
  rw [e1,e2]
  rw [errV_some h0] at hck ⊢
  unfold noC
  clear h0 e1 e2 hL hN hC
  go_enter Tryz.func67,Tryz.ntmps67
  go_wp2_with fail
  refine (hck _ (by go_grown)).mono ?_
  rintro e w1 ⟨rfl,hb1⟩
  have HB1:Hid (Below w.heap.size w w1):=onB (by go_grown) hb1
  obtain ⟨hbc,hbf⟩:=bcell hb1
  have hz:=bsize hb1
  simp at hz
  clear hb1 hck
  go_wp2_with fail
  refine bodyPost_ret (v:=.tuple #[.agg #[.int .i64 0,.int .i64 0],.iface 75 (.int .i64 (formErr l))]) (by simp [results,Tryz.results67,go_sem,hbc]) rfl ⟨rfl,?_⟩
  exact (HB1.out.setCell (by simp;omega) _).setCell (by simp;omega) _
 rw [h0,errV_zero] at hck
 have hrk:=fun w' (hb:Below w.heap.size w w')=>rkcheck_any An cn N Ac cc C w' (hN.later hb) (hC.later hb)
 obtain ⟨W,hW⟩:∃ W,((w.alloc (.cells #[.slice An N.length cn] 108)).alloc (.cells #[.slice Ac C.length cc] 42)).alloc (.cells #[.int .i64 0,.int .i64 0] 58)=W:=⟨_,rfl⟩
 have hBW:Below w.heap.size w W:=by rw [←hW];go_grown
 have w0:W.heap[w.heap.size]?=some (.cells #[.slice An N.length cn] 108 (0,0)):=by rw [←hW,heap_alloc_old _ _ (by simp;omega),topF0]
 have w1:W.heap[w.heap.size+1]?=some (.cells #[.slice Ac C.length cc] 42 (0,0)):=by rw [←hW,heap_alloc_old _ _ (by simp),topF1]
 have q0:W.cell? ⟨w.heap.size,0,none⟩=some (.slice An N.length cn):=by simp [World.cell?,w0]
 have q1:W.cell? ⟨w.heap.size+1,0,none⟩=some (.slice Ac C.length cc):=by simp [World.cell?,w1]
 have hsW:W.heap.size=w.heap.size+3:=by rw [←hW];simp
 have HBW:Hid (Below w.heap.size w W):=hBW
 have HSW:Hid (W.heap.size=w.heap.size+3):=hsW
 have hres:W.heap[w.heap.size+1+1]?=some (.cells #[.int .i64 0,.int .i64 0] 58 (0,0)):=by
  have h:=heap_alloc_new ((w.alloc (.cells #[.slice An N.length cn] 108)).alloc (.cells #[.slice Ac C.length cc] 42)) (.cells #[.int .i64 0,.int .i64 0] 58)
  rw [hW] at h
  simpa using h
 have HRes:Hid (W.heap[w.heap.size+1+1]?=some (.cells #[.int .i64 0,.int .i64 0] 58 (0,0))):=hres
 have HQ0:=hid_of q0
 have HQ1:=hid_of q1
 by_cases h1:ckErr N C=0
 case neg =>
  obtain ⟨e1,e2⟩:=val_ck h0 h1
  rw [e1,e2]
  rw [errV_some h1] at hrk ⊢
  unfold noC
  clear h0 h1 e1 e2 hL hN hC hBW q0 q1 hsW hres w0 w1
  go_enter Tryz.func67,Tryz.ntmps67
  go_wp2_with fail
  refine (hck _ HBW.out).mono ?_
  rintro e w1 ⟨rfl,hb1⟩
  have HB1:Hid (Below W.heap.size W w1):=hb1
  have p1:=(hb1.cell (p:=⟨w.heap.size,0,none⟩) (by have:=HSW.out;simp;omega)).trans HQ0.out
  have p2:=(hb1.cell (p:=⟨w.heap.size+1,0,none⟩) (by have:=HSW.out;simp;omega)).trans HQ1.out
  clear hb1 hck hW
  go_wp2_with fail
  refine (hrk _ (onB HBW.out HB1.out)).mono ?_
  rintro e w3 ⟨rfl,hb3⟩
  have HB3:Hid (Below W.heap.size W w3):=onB HB1.out hb3
  have hr:=(HB3.out.block (w.heap.size+1+1) (by have:=HSW.out;omega)).trans HRes.out
  have r1:w.heap.size+1+1<w3.heap.size:=(Array.getElem?_eq_some_iff.1 hr).1
  have r2:w3.cell? ⟨w.heap.size+1+1,0,none⟩=some (.int .i64 0):=by simp [World.cell?,hr]
  have r3:w3.cell? ⟨w.heap.size+1+1,1,none⟩=some (.int .i64 0):=by simp [World.cell?,hr]
  have rf0:w3.frozen? ⟨w.heap.size+1+1,0,none⟩=false:=by simp [World.frozen?,hr]
  have rf1:w3.frozen? ⟨w.heap.size+1+1,1,none⟩=false:=by simp [World.frozen?,hr]
  clear hb3 hr hrk p1 p2
  go_wp2_with fail
  refine bodyPost_ret (v:=.tuple #[.agg #[.int .i64 0,.int .i64 0],.iface 75 (.int .i64 (ckErr N C))]) (by simp [results,Tryz.results67,go_sem,r2,r3]) rfl ⟨rfl,?_⟩
  exact ((onB HBW.out HB3.out).setCell (by simp;omega) _).setCell (by simp;omega) _
 obtain ⟨e1,e2⟩:=val_all h0 h1
 rw [e1,e2]
 rw [h1,errV_zero] at hrk
 have HCm:Hid (∀ w',Below W.heap.size W w'→Calls Tryz.prog 91 #[.slice A l.length cap,.func (.func 92) #[] #[.pointer (some ⟨w.heap.size,0,none⟩),.pointer (some ⟨w.heap.size+1,0,none⟩)]] w' fun e w''=>e=.returned (.tuple #[.agg #[.int .i64 (if missT N (treeOf l (l.length-1))=true then noC else valT N C (treeOf l (l.length-1))).1,.int .i64 (if missT N (treeOf l (l.length-1))=true then noC else valT N C (treeOf l (l.length-1))).2],errV (if missT N (treeOf l (l.length-1))=true then 5 else 0)])∧Below w'.heap.size w' w''):=by
  intro w' hb
  refine comes_any 92 w.heap.size (w.heap.size+1) ent_value1 N C A cap l w' (hL.later (onB hBW hb)) h0 (ck_ok h1) ?_
  intro x w'' hb2
  have hbb:=onB hb hb2
  exact value1_any w.heap.size (w.heap.size+1) An cn N Ac cc C x w'' ((hbb.cell (p:=⟨w.heap.size,0,none⟩) (by simp;omega)).trans q0) ((hbb.cell (p:=⟨w.heap.size+1,0,none⟩) (by simp;omega)).trans q1) (hN.later (onB hBW hbb)) (hC.later (onB hBW hbb)) h1
 obtain ⟨R,hR⟩:∃ R,(if missT N (treeOf l (l.length-1))=true then noC else valT N C (treeOf l (l.length-1)))=R:=⟨_,rfl⟩
 obtain ⟨E,hE⟩:∃ E,errV (if missT N (treeOf l (l.length-1))=true then 5 else 0)=E:=⟨_,rfl⟩
 rw [hR,hE] at HCm ⊢
 clear h0 h1 e1 e2 hL hN hC hR hE hBW q0 q1 hsW hres w0 w1
 go_enter Tryz.func67,Tryz.ntmps67
 go_wp2_with fail
 refine (hck _ HBW.out).mono ?_
 rintro e w1 ⟨rfl,hb1⟩
 have HB1:Hid (Below W.heap.size W w1):=hb1
 have p1:=(hb1.cell (p:=⟨w.heap.size,0,none⟩) (by have:=HSW.out;simp;omega)).trans HQ0.out
 have p2:=(hb1.cell (p:=⟨w.heap.size+1,0,none⟩) (by have:=HSW.out;simp;omega)).trans HQ1.out
 clear hb1 hck hW
 go_wp2_with fail
 refine (hrk _ (onB HBW.out HB1.out)).mono ?_
 rintro e w2 ⟨rfl,hb2⟩
 have HB2:Hid (Below W.heap.size W w2):=onB HB1.out hb2
 clear hb2 hrk p1 p2
 go_wp2_with fail
 refine (HCm.out _ HB2.out).mono ?_
 rintro e w3 ⟨rfl,hb3⟩
 have HB3:Hid (Below W.heap.size W w3):=onB HB2.out hb3
 have hr:=(HB3.out.block (w.heap.size+1+1) (by have:=HSW.out;omega)).trans HRes.out
 have r1:w.heap.size+1+1<w3.heap.size:=(Array.getElem?_eq_some_iff.1 hr).1
 have r2:w3.cell? ⟨w.heap.size+1+1,0,none⟩=some (.int .i64 0):=by simp [World.cell?,hr]
 have r3:w3.cell? ⟨w.heap.size+1+1,1,none⟩=some (.int .i64 0):=by simp [World.cell?,hr]
 have rf0:w3.frozen? ⟨w.heap.size+1+1,0,none⟩=false:=by simp [World.frozen?,hr]
 have rf1:w3.frozen? ⟨w.heap.size+1+1,1,none⟩=false:=by simp [World.frozen?,hr]
 clear hb3 hr
 go_wp2_with fail
 refine bodyPost_ret (v:=.tuple #[.agg #[.int .i64 R.1,.int .i64 R.2],E]) (by simp [results,Tryz.results67,go_sem,r2,r3]) rfl ⟨rfl,?_⟩
 exact ((onB HBW.out HB3.out).setCell (by simp;omega) _).setCell (by simp;omega) _
end Go.Proofs.YtnlfpaopfloklaaGreatDoor
namespace Go.Proofs.YtnlfpaopfloklaaGreatDoor
set_option maxRecDepth 20000
def nmB (l:List UInt8):ByteArray:=⟨l.toArray⟩
theorem nmB_list (l:List UInt8):(nmB l).data.toList=l:=by simp [nmB]
theorem nmB_back (s:ByteArray):nmB s.data.toList=s:=by unfold nmB;simp
theorem comp_rise (zs:List (List UInt8)) (hs:zs.Pairwise (fun a b=>a≤b)):(Lib.compact zs).Pairwise (fun a b=>a≤b):=by
 unfold Lib.compact
 have hle:∀ i j,i≤j→j<zs.length→zs.toArray[i]!≤zs.toArray[j]! := fun i j hij hj=>by
  rw [getElem!_pos _ i (by simp;omega),getElem!_pos _ j (by simpa using hj)]
  by_cases e:i=j
  ·subst e;exact List.le_refl _
  ·have:=List.pairwise_iff_getElem.1 hs i j (by omega) hj (by omega)
   simpa using this
 have h:∀ m,m≤zs.length→(Lib.compactUpTo zs.toArray m).Pairwise (fun a b=>a≤b)∧∀ x∈Lib.compactUpTo zs.toArray m,∃ j,j<m∧zs.toArray[j]! = x:=by
  intro m
  induction m with
  | zero=>intro _;exact ⟨by simp [Lib.compactUpTo],fun x hx=>by simp [Lib.compactUpTo] at hx⟩
  | succ m ih =>
   intro hm
   obtain ⟨h1,h2⟩:=ih (by omega)
   rw [Lib.compactUpTo_succ]
   refine ⟨?_,fun x hx=>?_⟩
   ·rw [List.pairwise_append]
    refine ⟨h1,by split <;> simp,fun a ha b hb=>?_⟩
    split at hb
    ·rw [List.mem_singleton.1 hb]
     obtain ⟨j,h3,h4⟩:=h2 a ha
     rw [←h4]
     exact hle j m (by omega) (by omega)
    ·cases hb
   ·rcases List.mem_append.1 hx with hx | hx
    ·obtain ⟨j,h3,h4⟩:=h2 x hx
     exact ⟨j,by omega,h4⟩
    ·split at hx
     ·exact ⟨m,by omega,(List.mem_singleton.1 hx).symm⟩
     ·cases hx
 exact (h _ (Nat.le_refl _)).1
theorem refs_rise {l:List Nd} (h:formErr l=0):∀ i j,i<j→j<(refsP l).length→(refsP l).getD i []<(refsP l).getD j []:=by
 intro i j hij hj
 have hnd:=(refs_once h).1
 have hle:(refsP l).Pairwise (fun a b=>a≤b):=by
  unfold refsP
  rw [if_pos h]
  exact comp_rise _ (srt_le _)
 rw [List.getD_eq_getElem?_getD,List.getD_eq_getElem?_getD,List.getElem?_eq_getElem (by omega:i<_),List.getElem?_eq_getElem hj]
 have h1:=List.pairwise_iff_getElem.1 hle i j (by omega) hj hij
 have h2:=List.pairwise_iff_getElem.1 hnd i j (by omega) hj hij
 simp only [Option.getD_some]
 rcases Std.lt_trichotomy (refsP l)[i] (refsP l)[j] with h3 | h3 | h3
 ·exact h3
 ·exact absurd h3 h2
 ·exact absurd (List.le_antisymm h1 (List.le_of_lt h3)) h2
theorem names_down {l:List Nd} (h:formErr l=0):∀ j,1≤j→j<((refsP l).map nmB).length→downS ((refsP l).map nmB) j=false:=by
 intro j h1 hj
 rw [List.length_map] at hj
 have hr:=refs_rise h (j-1) j (by omega) hj
 have e:∀ k,k<(refsP l).length→(((refsP l).map nmB).getD k noS).toList=(refsP l).getD k []:=fun k hk=>by
  rw [List.getD_eq_getElem?_getD,List.getElem?_map,List.getElem?_eq_getElem hk,List.getD_eq_getElem?_getD,List.getElem?_eq_getElem hk]
  simp only [Option.map_some,Option.getD_some]
  rw [ByteArray.toList_eq,nmB_list]
 unfold downS
 rw [e j hj,e (j-1) (by omega),bytesLess_eq,Bool.or_eq_false_iff]
 refine ⟨decide_eq_false fun h3=>?_,?_⟩
 ·exact absurd (List.lt_trans hr h3) (List.lt_irrefl _)
 ·rw [beq_eq_false_iff_ne]
  intro h3
  rw [h3] at hr
  exact absurd hr (List.lt_irrefl _)
theorem form_value {d:Dm} (hd:(dimErr d).2=0) {i:Nat} (hf:(d.mem i).formula.size≠0) (hm:mErr d i=0) (f:Int→Int×Int) (hok:∀ z∈mNd d i,goodC (f z)) :
  valE (prsL (d.mem i).formula) ((refsP (prsL (d.mem i).formula)).map nmB) (((refsP (prsL (d.mem i).formula)).map (whL d)).map f)=0∧valC (prsL (d.mem i).formula) ((refsP (prsL (d.mem i).formula)).map nmB) (((refsP (prsL (d.mem i).formula)).map (whL d)).map f)=oneV d f i:=by
 have hpe:=mErr_prsE hf hm
 have hfe:=form_read hpe
 obtain ⟨l,hl⟩:∃ l,prsL (d.mem i).formula=l:=⟨_,rfl⟩
 have hmem:∀ x,x∈refsP l↔x∈nmsOf d i:=fun x=>by
  rw [(refs_once (by rw [←hl];exact hfe)).2 x]
  unfold nmsOf
  rw [hl]
 have htre:treF d i=treeOf l (l.length-1):=by unfold treF;rw [hl]
 have htn:∀ s∈refsT (treeOf l (l.length-1)),s.data.toList∈refsP l:=fun s hs=>(hmem _).2 (tre_names hpe (by rw [htre];exact hs))
 rw [hl] at hfe ⊢
 have hck:ckErr ((refsP l).map nmB) (((refsP l).map (whL d)).map f)=0:=by
  refine ck_good (by simp) (fun j hj=>?_) (names_down hfe)
  simp only [List.length_map] at hj
  unfold goodB
  have hz:((refsP l).map (whL d))[j]'(by simpa using hj)∈mNd d i:=(need_names hd hf hm _).2 ⟨_,(hmem _).1 (List.getElem_mem hj),by simp⟩
  have hg:=hok _ hz
  unfold goodC at hg
  rw [List.getD_eq_getElem?_getD,List.getElem?_eq_getElem (by simpa using hj)]
  simp only [Option.getD_some,List.getElem_map] at hg ⊢
  rw [hg]
  rfl
 have hwh:∀ s,s.data.toList∈refsP l→∃ k:Nat,whereS ((refsP l).map nmB) s=(k:Int)∧k<(refsP l).length∧nmB ((refsP l).getD k [])=s:=fun s hs=>by
  rcases where_cases ((refsP l).map nmB) s with ⟨-,h2⟩ | ⟨k,h1,h2,h3⟩
  ·obtain ⟨k,hk,e⟩:=List.getElem_of_mem hs
   refine absurd ?_ (h2 k (by simpa using hk))
   rw [List.getD_eq_getElem?_getD,List.getElem?_map,List.getElem?_eq_getElem hk]
   simp only [Option.map_some,Option.getD_some]
   rw [e,nmB_back]
  ·rw [List.length_map] at h2
   refine ⟨k,h1,h2,?_⟩
   rw [List.getD_eq_getElem?_getD,List.getElem?_map,List.getElem?_eq_getElem h2] at h3
   rw [List.getD_eq_getElem?_getD,List.getElem?_eq_getElem h2]
   exact h3
 have hmiss:missT ((refsP l).map nmB) (treeOf l (l.length-1))=false:=by
  unfold missT
  rw [List.any_eq_false]
  intro s hs
  obtain ⟨k,h1,-,-⟩:=hwh s (htn s hs)
  rw [h1]
  simp
 obtain ⟨e1,e2⟩:=val_all hfe hck
 rw [hmiss] at e1 e2
 refine ⟨e1,e2.trans ?_⟩
 simp only [Bool.false_eq_true,if_false]
 unfold oneV
 rw [if_neg hf,htre]
 refine valG_names _ _ _ _ fun s hs=>?_
 obtain ⟨k,h1,h2,h3⟩:=hwh s (htn s hs)
 unfold refC
 rw [h1,Int.toNat_natCast,List.getD_eq_getElem?_getD,List.getElem?_map,List.getElem?_map,List.getElem?_eq_getElem h2]
 simp only [Option.map_some,Option.getD_some]
 rw [←h3,nmB_list,List.getD_eq_getElem?_getD,List.getElem?_eq_getElem h2]
 rfl
theorem parts_value {d:Dm} {i:Nat} (hf:(d.mem i).formula.size=0) (f:Int→Int×Int):partsV d.mem f (mNd d i)=oneV d f i:=by
 unfold partsV oneV
 rw [if_pos hf,←parts_need hf]
 have hall:∀ (P:List Int) (c:Int×Int),(P.filter (sgB d)).foldl (partStep d.mem f) c=P.foldl (partStep d.mem f) c:=by
  intro P
  induction P with
  | nil=>intro c;rfl
  | cons x r ih =>
   intro c
   rw [List.filter_cons,List.foldl_cons]
   by_cases hs:sgB d x=true
   ·rw [if_pos hs,List.foldl_cons,ih]
   ·rw [if_neg hs,ih]
    have h0:(d.mem x.toNat).sign=0:=by unfold sgB at hs;simpa using hs
    have e:partStep d.mem f c x=c:=by unfold partStep;rw [if_neg (by omega),if_neg (by omega)]
    rw [e]
 exact hall _ _
theorem good_one {d:Dm} (hd:(dimErr d).2=0) {i:Nat} (hm:mErr d i=0) (f:Int→Int×Int) (hok:∀ z∈mNd d i,goodC (f z)):goodC (oneV d f i):=by
 by_cases hf:(d.mem i).formula.size=0
 ·rw [←parts_value hf]
  exact good_parts _ _ _
 ·have hpe:=mErr_prsE hf hm
  unfold oneV
  rw [if_neg hf]
  have hall:∀ t:Tre,(∀ s∈refsT t,goodC (f (whL d s.data.toList)))→goodC (valG (fun s=>f (whL d s.data.toList)) t):=by
   intro t
   induction t with
   | num n=>intro _;exact good_ofP n
   | ref s=>intro h;exact h s (by simp [refsT])
   | bin o a b _ _=>intro _;exact opP_ok o _ _
  exact hall _ fun s hs=>hok _ ((need_names hd hf hm _).2 ⟨_,tre_names hpe hs,rfl⟩)
theorem good_sol {D:Nat→Dm} {n:Nat} (hR:AllR D n) {inp:List Int→Int×Int} (hg:∀ p,goodC (inp p)):∀ (m:Nat) (p:List Int),InO D n p→msrTo D p n<m→goodC (solV D n inp p):=by
 intro m
 induction m with
 | zero=>intro p _ h;omega
 | succ m ih =>
  intro p hp hm
  rcases by_in D p n with h | ⟨b,h1,h2⟩
  ·rw [sol_leaf inp (by omega)]
   exact hg p
  ·rw [sol_by hR inp hp h1]
   obtain ⟨hd,hme,-,-⟩:=rErr_right (hR b h2)
   have hp0:=hp.lo b h2
   have hp1:=hp.hi b h2
   refine good_one hd (hme _ (by omega)) _ fun z hz=>?_
   have hxi:=mNd_in hz
   have hrk:=rk_less (hR b h2) (i:=(p.getD b 0).toNat) (by omega) hz
   rw [Int.toNat_of_nonneg hp0] at hrk
   have hms:=(msr_less (by rw [hp.len];exact h2) hrk n).2 h2
   exact ih _ (inO_set hp h2 hxi.1 hxi.2) (by omega)
end Go.Proofs.YtnlfpaopfloklaaGreatDoor
