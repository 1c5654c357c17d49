/-
  What may be spread (isAmount), who has the greater rest (byWeight's two closures).
-/
import Derived.Test.YtenlladggdcfnaaGreatDoorJAAS
namespace Go.Proofs.YtenlladggdcfnaaGreatDoor
open Go Go.ChangeShapes Go.WideShapes Go.ChangeAt Go.RowKit Go.Shelf Go.Lib Go.Sort
set_option maxRecDepth 100000
def isAmt (n:Int):Bool:=decide (0≤n∧n≤1000000)
set_option maxHeartbeats 1000000 in
theorem isamount_any (n:Int) (w:World):Calls Tryz.prog 13 #[.int .i64 n] w fun e w'=>e=.returned (.bool (isAmt n))∧w'=w:=by
 unfold isAmt
 go_enter Tryz.func13,Tryz.ntmps13
 by_cases h1:0≤n
 ·by_cases h2:n≤1000000
  ·rw [decide_eq_true ⟨h1,h2⟩]
   go_wp2_with fail
   go_ret
   exact ⟨rfl,rfl⟩
  ·rw [decide_eq_false fun h=>h2 h.2]
   go_wp2_with fail
   go_ret
   exact ⟨rfl,rfl⟩
 ·rw [decide_eq_false fun h=>h1 h.1]
  go_wp2_with fail
  go_ret
  exact ⟨rfl,rfl⟩
set_option maxHeartbeats 1000000 in
theorem like1_any (n:Int) (w:World):Calls Tryz.prog 16 #[.int .i64 n] w fun e w'=>e=.returned (.bool (!isAmt n))∧w'=w:=by
 have hc:=isamount_any n w
 go_enter Tryz.func16,Tryz.ntmps16
 generalize isAmt n=b at hc ⊢
 go_wp2_with (go_at_call 13;refine hc.mono ?_;rintro e w1 ⟨rfl,rfl⟩)
 go_ret
 exact ⟨rfl,rfl⟩
structure RestA (w:World) (q1 q2 q3:Nat) (n:Int) (A:Option Addr) (c:Nat) (W:List Int):Prop where
 c1:w.cell? ⟨q1,0,none⟩=some (.int .i64 n)
 c2:w.cell? ⟨q2,0,none⟩=some (.slice A W.length c)
 c3:w.cell? ⟨q3,0,none⟩=some (.int .i64 W.sum)
 pl:PlAt w A c W
set_option maxHeartbeats 4000000 in
theorem rest_any (q1 q2 q3:Nat) (n:Int) (A:Option Addr) (c:Nat) (W:List Int) (i:Nat) (w:World) (H:RestA w q1 q2 q3 n A c W) (hi:i<W.length) (hs:0<W.sum) (hn:0≤n∧n≤1000000) (hW:∀ x∈W,0≤x∧x≤1000000) :
  Calls Tryz.prog 32 #[.int .i64 i,.pointer (some ⟨q1,0,none⟩),.pointer (some ⟨q2,0,none⟩),.pointer (some ⟨q3,0,none⟩)] w fun e w'=>e=.returned (.int .i64 (lkR n W i))∧∃ q,w'=w.drewN q:=by
 have mixed:Tryz.prog.follows .mixedOrders=true:=by kernel_rfl
 obtain ⟨c1,c2,c3,hl,h0 | ⟨b,o,rfl,hb,hX⟩⟩:=H
 ·rw [h0] at hi;exact absurd hi (Nat.not_lt_zero _)
 have hx:=hX i hi
 have hm:W.getD i 0∈W:=by rw [List.getD_eq_getElem?_getD,List.getElem?_eq_getElem hi];exact List.getElem_mem hi
 have hw:=hW _ hm
 unfold lkR
 obtain ⟨x,hxe⟩:∃ x,x=W.getD i 0:=⟨_,rfl⟩
 obtain ⟨s,hse⟩:∃ s,s=W.sum:=⟨_,rfl⟩
 obtain ⟨k,hke⟩:∃ k,k=W.length:=⟨_,rfl⟩
 rw [←hxe] at hx hw ⊢
 rw [←hse] at c3 hs ⊢
 rw [←hke] at c2 hi
 have hs0 : ¬ s=0:=by omega
 have hiI:(i:Int)<(k:Int):=by omega
 obtain ⟨y,hye⟩:∃ y,y=n*x:=⟨_,rfl⟩
 have hy0:0≤y:=by rw [hye];exact Int.mul_nonneg hn.1 hw.1
 have hy1:y≤1000000*1000000:=by rw [hye];exact Int.mul_le_mul hn.2 hw.2 hw.1 (by omega)
 have hyw:IntKind.i64.wrap (n*x)=y:=by rw [←hye,IntKind.wrap_i64];omega
 have hr:y.tmod s=y % s:=Int.tmod_eq_emod_of_nonneg hy0
 have hr1:=Int.emod_nonneg y hs0
 have hr2:=Int.emod_lt_of_pos y hs
 rw [←hye]
 clear hX hl hm hW hxe hse hke hye
 go_enter Tryz.func32,Tryz.ntmps32
 go_wp2_with fail
 go_quiet (fail)
 go_wp2_with fail
 go_ret
 exact ⟨rfl,nq,rfl⟩
theorem RestA.drew {w:World} {q1 q2 q3:Nat} {n:Int} {A:Option Addr} {c:Nat} {W:List Int} (h:RestA w q1 q2 q3 n A c W) (k:Nat):RestA (w.drewN k) q1 q2 q3 n A c W:=⟨h.c1,h.c2,h.c3,h.pl⟩
set_option maxHeartbeats 4000000 in
theorem less_any (q1 q2 q3 q4:Nat) (n:Int) (A:Option Addr) (c:Nat) (W:List Int) (i k:Nat) (w:World) (H:RestA w q1 q2 q3 n A c W) (h4:w.cell? ⟨q4,0,none⟩=some (.func (.func 32) #[] #[.pointer (some ⟨q1,0,none⟩),.pointer (some ⟨q2,0,none⟩),.pointer (some ⟨q3,0,none⟩)]))
  (hi:i<W.length) (hk:k<W.length) (hs:0<W.sum) (hn:0≤n∧n≤1000000) (hW:∀ x∈W,0≤x∧x≤1000000) :
  Calls Tryz.prog 34 #[.int .i64 i,.int .i64 k,.pointer (some ⟨q4,0,none⟩)] w fun e w'=>e=.returned (.int .i64 (cmpI (lkR n W k) (lkR n W i)))∧∃ q,w'=w.drewN q:=by
 have mixed:Tryz.prog.follows .mixedOrders=true:=by kernel_rfl
 have hc1:∀ m,Calls Tryz.prog 32 #[.int .i64 i,.pointer (some ⟨q1,0,none⟩),.pointer (some ⟨q2,0,none⟩),.pointer (some ⟨q3,0,none⟩)] (w.drewN m) fun e w'=>e=.returned (.int .i64 (lkR n W i))∧∃ q,w'=(w.drewN m).drewN q:=fun m=>rest_any q1 q2 q3 n A c W i _ (H.drew m) hi hs hn hW
 have hc2:∀ m,Calls Tryz.prog 32 #[.int .i64 k,.pointer (some ⟨q1,0,none⟩),.pointer (some ⟨q2,0,none⟩),.pointer (some ⟨q3,0,none⟩)] (w.drewN m) fun e w'=>e=.returned (.int .i64 (lkR n W k))∧∃ q,w'=(w.drewN m).drewN q:=fun m=>rest_any q1 q2 q3 n A c W k _ (H.drew m) hk hs hn hW
 have hc3:=fun (w:World)=>compare_any (lkR n W k) (lkR n W i) w
 generalize lkR n W i=r1 at hc1 hc3 ⊢
 generalize lkR n W k=r2 at hc2 hc3 ⊢
 generalize cmpI r2 r1=r3 at hc3 ⊢
 clear H hs hn hW hi hk
 have e1:∀ (args:Array Value) (w:World),(callFunc 32 args).run Tryz.prog w=.ok (.enter 32 args) w:=fun args w=>by simp [callFunc,Tryz.func32];rfl
 go_enter Tryz.func34,Tryz.ntmps34
 go_wp2_with fail
 go_quiet (first | (go_at_call 35;exact Calls.quiet_of_same (hc3 _)) | (go_at_call_of 32 (Value.int .i64 k);exact Calls.quiet_of (hc2 _)) | (go_at_call_of 32 (Value.int .i64 i);exact Calls.quiet_of (hc1 _)))
 go_wp2_with fail
 go_ret
 exact ⟨rfl,nq,rfl⟩
end Go.Proofs.YtenlladggdcfnaaGreatDoor
namespace Go.Proofs.YtenlladggdcfnaaGreatDoor
open Go.ChangeShapes Go.WideShapes Go.ChangeAt Go.RowKit
set_option maxRecDepth 20000
def OutS (s:ByteArray) (q base k a:Nat) (L:List Nd) (w:World) (e:Ending) (w':World):Prop :=
 Kept base (fun j=>j=q) w w'∧((∃ (a':Nat) (t:Tre) (v':Value),e=.returned (.int .i64 ((L.length+sizT t-1:Nat):Int))∧Rds s k a a' t∧NoSg s k a'∧InV w' q s a' false v'∧w'.ownsRow base 172 5 v' (L ++ post t L.length).length (cellsN (L ++ post t L.length))∧a+sizT t≤a')
  ∨ (∃ (i:Int) (a':Nat) (v':Value) (L':List Nd),e=.returned (.int .i64 i)∧Fls s a a'∧InV w' q s a' true v'∧w'.ownsRow base 172 5 v' L'.length (cellsN L')))
def SumC (s:ByteArray) (q base k a:Nat):Prop := ∀ (v:Value) (L:List Nd) (w:World),InV w q s a false v→q<base→base≤w.heap.size→w.ownsRow base 172 5 v L.length (cellsN L)→L.length≤a→Calls Tryz.prog 130 #[.pointer (some ⟨q,0,none⟩),.int .i64 k] w fun e w'=>OutS s q base k a L w e w'
def OneC (s:ByteArray) (q base a:Nat):Prop := ∀ (v:Value) (L:List Nd) (w:World),InV w q s a false v→q<base→base≤w.heap.size→w.ownsRow base 172 5 v L.length (cellsN L)→L.length≤a→Calls Tryz.prog 140 #[.pointer (some ⟨q,0,none⟩)] w fun e w'=>OutS s q base 3 a L w e w'
theorem nosg3 (s:ByteArray) (a:Nat):NoSg s 3 a:=fun _=>by
 by_cases h:signI (nextB s a)<0
 ·exact Or.inl h
 ·right
  rcases sgn_four h with ⟨-,e⟩ | ⟨-,e⟩ | ⟨-,e⟩ | ⟨-,e⟩ <;> rw [e] <;> decide
theorem kept_set {N:Nat} {q j:Nat} {w:World} {v:Value}:Kept N (fun i=>i=q) w (w.setCell ⟨q,j,none⟩ v) :=
 ⟨rfl,rfl,rfl,by simp,fun k _ hk=>setCell_off w q j k v hk⟩
theorem own_off {w:World} {base q j:Nat} {v u:Value} {n:Nat} {xs:List Value} {e size:Nat} (h:w.ownsRow base e size v n xs) (hq:q<base):(w.setCell ⟨q,j,none⟩ u).ownsRow base e size v n xs :=
 own_keep h fun g hg=>setCell_off _ _ _ _ _ (by have:=(own_block h hg).1;omega)
theorem lead_ge {p:Int→Bool} {t:ByteArray} {m:Nat} (h1:∀ i,i<m→p (byteN t i)=true) (hm:m≤t.size):∀ (f i:Nat),i≤m→i+f=t.size→m≤leadTo p t f i
 | 0,i,hi,hf=>by rw [leadTo];omega
 | f+1,i,hi,hf=>by
  by_cases e:i=m
  ·subst e
   exact (leadTo_all p t (f+1) i).1
  ·rw [lead_hit (h1 i (by omega))]
   exact lead_ge h1 hm f (i+1) (by omega) (by omega)
section
variable {s:ByteArray} {a k:Nat}
theorem ext_byte {i:Nat} (h:a+i<s.size):byteN (s.extract a s.size) i=nextB s (a+i):=by
 rw [byteN_ext (by omega),nextB,if_neg (by omega)]
theorem digs_stop (hk1:1≤k) (hak:a+k≤s.size) (hall:∀ i,i<k→digB (nextB s (a+i))=true) (hz:nextB s a≠48) (hst:k=7∨digB (nextB s (a+k))=false) (hk7:k≤7):digitsN s a=k:=by
 have hsz:=tail_size s a
 have h1:∀ i,i<k→digB (byteN (s.extract a s.size) i)=true:=fun i hi=>by rw [ext_byte (by omega)];exact hall i hi
 unfold digitsN
 rw [if_neg hz]
 by_cases e:k=7
 ·have:=lead_ge h1 (by rw [hsz];omega) (s.extract a s.size).size 0 (Nat.zero_le _) (Nat.zero_add _)
  unfold leadN
  omega
 ·have hst':=hst.resolve_left e
  have:leadN digB (s.extract a s.size)=k:=by
   refine leadTo_exact h1 ?_ _ 0 (Nat.zero_le _) (Nat.zero_add _)
   by_cases e2:a+k=s.size
   ·left;rw [hsz];omega
   ·right;rw [ext_byte (by omega)];exact hst'
  omega
theorem digs_zero (hz:nextB s a=48):digitsN s a=1:=by unfold digitsN;rw [if_pos hz]
theorem lets_stop (hak:a+k≤s.size) (hall:∀ i,i<k→letB (nextB s (a+i))=true) (hst:letB (nextB s (a+k))=false):leadN letB (s.extract a s.size)=k:=by
 have hsz:=tail_size s a
 refine leadTo_exact (fun i hi=>by rw [ext_byte (by omega)];exact hall i hi) ?_ _ 0 (Nat.zero_le _) (Nat.zero_add _)
 by_cases e2:a+k=s.size
 ·left;rw [hsz];omega
 ·right;rw [ext_byte (by omega)];exact hst
theorem ten_small:∀ k,k<7→(10:Int) ^ k≤1000000:=by decide
theorem numW_none:numW (s.extract a (a+0))=0:=by
 have:(s.extract a (a+0)).size=0:=by rw [ByteArray.size_extract];omega
 rw [name_empty this]
 rfl
theorem numW_more (h:a+k<s.size):numW (s.extract a (a+(k+1)))=numW (s.extract a (a+k))*10+(nextB s (a+k)-48):=by
 have e:(s.extract a (a+(k+1))).data.toList=(s.extract a (a+k)).data.toList ++ [s[a+k]]:=by
  apply List.ext_getElem?
  intro i
  rw [List.getElem?_append]
  simp only [ByteArray.data_extract,Array.toList_extract,List.extract_eq_take_drop,List.getElem?_take,List.getElem?_drop,List.length_take,List.length_drop,Array.length_toList]
  have hsz:s.data.size=s.size:=rfl
  by_cases h1:i<k
  ·rw [if_pos (by omega),if_pos (by omega),if_pos (by omega)]
  ·by_cases h2:i=k
   ·subst h2
    rw [if_pos (by omega),if_neg (by omega)]
    have h3:i-min (a+i-a) (s.data.size-a)=0:=by omega
    rw [h3]
    simp [List.getElem?_eq_getElem (show a+i<s.data.toList.length by simpa using h)]
    rfl
   ·rw [if_neg (by omega),if_neg (by omega)]
    rw [List.getElem?_eq_none (by simp;omega)]
 unfold numW
 rw [e,List.foldl_append]
 have hb:=byteN_get s (a+k) h
 rw [nextB,if_neg (by omega),←hb]
 rfl
end
section
variable {w w4 W w6:World} {base q a a1 m:Nat} {v v':Value} {s wd:ByteArray} {L:List Nd} {x:Nd}
theorem app_at (hI:InV w q s a1 false v) (hO:w.ownsRow base 172 5 v m (cellsN L)) (hqb:q<base) (hb:Below w.heap.size w W) (hg:W.grownBy w6 v.ownBlock):InV w6 q s a1 false v :=
 hI.same ((hg.block q (Nat.lt_of_lt_of_le hI.lt hb.size) (fun e=>by have:=(own_block hO e.symm).1;omega)).trans (hb.block q hI.lt))
theorem app_out (hI:InV w q s a1 false v) (hO:w.ownsRow base 172 5 v m (cellsN L)) (hqb:q<base) (hbw:base≤w.heap.size) (hb:Below w.heap.size w W) (hg:W.grownBy w6 v.ownBlock) (ho:w6.ownsRow base 172 5 v' (m+1) (cellsN L ++ cellsNd1 x)) :
  InV (w6.setCell ⟨q,3,none⟩ v') q s a1 false v'∧(w6.setCell ⟨q,3,none⟩ v').ownsRow base 172 5 v' (m+1) (cellsN (L ++ [x]))∧Kept base (fun j=>j=q) w (w6.setCell ⟨q,3,none⟩ v'):=by
 refine ⟨(app_at hI hO hqb hb hg).set3 _,own_off (by rw [cellsN_snoc];exact ho) hqb,?_⟩
 have hk1:Kept base (fun j=>j=q) w w6:=⟨hg.os.trans hb.os,hg.tape.trans hb.tape,hg.output.trans hb.output,Nat.le_trans hb.size hg.size,fun k hk _=>(hg.block k (by have:=hb.size;omega) (fun e=>by have:=(own_block hO e.symm).1;omega)).trans (hb.block k (by omega))⟩
 exact hk1.trans kept_set
theorem out_leaf (hL:L.length=m) (hR:Rds s 3 a a1 (leafT wd)) (hK:Kept base (fun j=>j=q) w w4) (hI:InV w4 q s a1 false v) (hO:w4.ownsRow base 172 5 v m (cellsN L)) (hqb:q<base) (hbw:base≤w4.heap.size) (hb:Below w4.heap.size w4 W) (hg:W.grownBy w6 v.ownBlock) (ho:w6.ownsRow base 172 5 v' (m+1) (cellsN L ++ cellsNd1 (opndN wd))) :
  OutS s q base 3 a L w (.returned (.int .i64 (m:Int))) (w6.setCell ⟨q,3,none⟩ v'):=by
 obtain ⟨h1,h2,h3⟩:=app_out hI hO hqb hbw hb hg ho
 obtain ⟨p1,p2⟩:=leaf_opnd wd L.length
 refine ⟨hK.trans h3,Or.inl ⟨a1,leafT wd,_,by rw [p2,Nat.add_sub_cancel,hL],hR,nosg3 _ _,h1,?_,by rw [p2];have:=hR.1;omega⟩⟩
 rw [p1,List.length_append,hL]
 exact h2
end
set_option maxHeartbeats 2000000 in
theorem rless_any (A B:Option Addr) (ca cb:Nat) (a b:List Int) (w:World) (ha:a.length≤4) (hb:b.length≤4) (hA:PlAt w A ca a) (hB:PlAt w B cb b):Calls Tryz.prog 62 #[.slice A a.length ca,.slice B b.length cb] w fun e w'=>e=.returned (.bool (lessL a b))∧Below w.heap.size w w':=by
 have HA:Hid (PlAt w A ca a):=hA
 have HB:Hid (PlAt w B cb b):=hB
 have HN:Hid (∀ k,k<a.length→k<b.length→lessL (a.drop k) (b.drop k)=if a.getD k 0=b.getD k 0 then lessL (a.drop (k+1)) (b.drop (k+1)) else decide (a.getD k 0<b.getD k 0)):=fun k h1 h2=>lessL_in h1 h2
 have HL:Hid (∀ k,b.length≤k→lessL (a.drop k) (b.drop k)=false):=fun k h2=>lessL_long h2
 have HS:Hid (∀ k,a.length≤k→k<b.length→lessL (a.drop k) (b.drop k)=true):=fun k h1 h2=>lessL_short h1 h2
 obtain ⟨na,hna⟩:∃ na,a.length=na:=⟨_,rfl⟩
 obtain ⟨nb,hnb⟩:∃ nb,b.length=nb:=⟨_,rfl⟩
 have HNA:Hid (a.length=na):=hna
 have HNB:Hid (b.length=nb):=hnb
 rw [hna] at HN HS ha
 rw [hnb] at HN HL HS hb
 rw [hna,hnb]
 have ha':(na:Int)≤4:=by omega
 have hb':(nb:Int)≤4:=by omega
 clear hA hB hna hnb
 go_enter Tryz.func62,Tryz.ntmps62
 go_wp2_with fail
 go_loopg [5] na (fun g s5 wr => ∃ (k:Nat),k≤na∧k≤nb∧g=na-k∧s5=.int .i64 k∧Hid (lessL (a.drop k) (b.drop k)=lessL a b)∧Below w.heap.size w wr)
 case atStart=>exact ⟨0,Nat.zero_le _,Nat.zero_le _,rfl,rfl,(rfl:lessL (a.drop 0) (b.drop 0)=lessL a b),Below.refl _ _⟩
 case round =>
  obtain ⟨k,hk,hk2,rfl,rfl,HF,hBw⟩:=hrel
  have HBw:Hid (Below w.heap.size w wr):=hBw
  by_cases hlt:k<na
  ·have hki:(k:Int)<(na:Int):=by omega
   by_cases hlb:k<nb
   ·obtain ⟨hc,h0 | ⟨g1,o1,rfl,hbw,hcell⟩⟩:=HA.out.later hBw
    ·have:=HNA.out;rw [h0] at this;simp at this;omega
    obtain ⟨hc',h0 | ⟨g2,o2,rfl,hbw2,hcell2⟩⟩:=HB.out.later hBw
    ·have:=HNB.out;rw [h0] at this;simp at this;omega
    have x1:=hcell k (by rw [HNA.out];exact hlt)
    have x2:=hcell2 k (by rw [HNB.out];exact hlb)
    have hkb:(k:Int)<(nb:Int):=by omega
    have hst:=HN.out k hlt hlb
    generalize a.getD k 0=x at x1 hst
    generalize b.getD k 0=y at x2 hst
    clear hcell hcell2 hBw
    by_cases hxy:x=y
    ·have HR:Hid (lessL (a.drop (k+1)) (b.drop (k+1))=lessL a b):=by show _=_;rw [←HF.out,hst,if_pos hxy]
     subst hxy
     clear hst
     go_wp2_with fail
     go_quiet (fail)
     go_wp2_with fail
     go_roundg (na-(k+1))
     case measure=>omega
     case rel=>exact ⟨k+1,by omega,by omega,rfl,by go_num,HR,below_drewN HBw.out _⟩
    ·have HR:Hid (lessL a b=decide (x<y)):=by show _=_;rw [←HF.out,hst,if_neg hxy]
     clear hst
     go_wp2_with fail
     go_quiet (fail)
     go_wp2_with fail
     go_quiet (fail)
     go_wp2_with fail
     go_ret
     rw [HR.out]
     exact ⟨rfl,below_drewN (below_drewN HBw.out _) _⟩
   ·have HR:Hid (lessL a b=false):=by show _=_;rw [←HF.out,HL.out k (by omega)]
    have hkb:(nb:Int)≤(k:Int):=by omega
    have hnn:decide ((na:Int)<(nb:Int))=false:=decide_eq_false (by omega)
    have hnn':decide (na<nb)=false:=decide_eq_false (by omega)
    clear hBw
    go_wp2_with fail
    go_ret
    rw [HR.out]
    exact ⟨rfl,HBw.out⟩
  ·have hke:k=na:=by omega
   subst hke
   by_cases hlb:k<nb
   ·have HR:Hid (lessL a b=true):=by show _=_;rw [←HF.out,HS.out k (Nat.le_refl _) hlb]
    have hkb:(k:Int)<(nb:Int):=by omega
    clear hBw
    go_wp2_with fail
    go_ret
    rw [HR.out]
    exact ⟨rfl,HBw.out⟩
   ·have HR:Hid (lessL a b=false):=by show _=_;rw [←HF.out,HL.out k (by omega)]
    have hkb:(nb:Int)≤(k:Int):=by omega
    clear hBw
    go_wp2_with fail
    go_ret
    rw [HR.out]
    exact ⟨rfl,HBw.out⟩
set_option maxHeartbeats 4000000 in
theorem rfind_any (A:Option Addr) (cap:Nat) (xs:List EnL) (Ap:Option Addr) (cp:Nat) (p:List Int) (w:World) (hn:xs.length≤3000) (hE:EnsV w A cap xs) (hS:Short xs p) (hP:PlAt w Ap cp p) :
  Calls Tryz.prog 42 #[.slice A xs.length cap,.slice Ap p.length cp] w fun e w'=>e=.returned (.tuple #[.int .i64 (cntE (lE xs) p:Nat),.bool (hasE (lE xs) p)])∧Below w.heap.size w w':=by
 have HE:Hid (EnsV w A cap xs):=hE
 have HLs:Hid (∀ k w',k<xs.length→Below w.heap.size w w'→Calls Tryz.prog 62 #[.slice (xs.getD k noL).A (xs.getD k noL).e.pl.length (xs.getD k noL).c,.slice Ap p.length cp] w' fun e w''=>e=.returned (.bool (lessL (xs.getD k noL).e.pl p))∧Below w'.heap.size w' w''):=fun k w' hk hw'=>by
  obtain ⟨-,-,h0 | ⟨b,o,h0,hA⟩⟩:=hE.later hw'
  ·rw [h0] at hk;simp at hk
  ·exact rless_any _ _ _ _ _ _ w' (hS.1 k hk) hS.2 (hA.pl hk) (hP.later hw')
 have HLb:Hid (∀ k w',k<xs.length→Below w.heap.size w w'→Calls Tryz.prog 62 #[.slice Ap p.length cp,.slice (xs.getD k noL).A (xs.getD k noL).e.pl.length (xs.getD k noL).c] w' fun e w''=>e=.returned (.bool (lessL p (xs.getD k noL).e.pl))∧Below w'.heap.size w' w''):=fun k w' hk hw'=>by
  obtain ⟨-,-,h0 | ⟨b,o,h0,hA⟩⟩:=hE.later hw'
  ·rw [h0] at hk;simp at hk
  ·exact rless_any _ _ _ _ _ _ w' hS.2 (hS.1 k hk) (hP.later hw') (hA.pl hk)
 have HC:Hid (∀ i,i≤xs.length→(∀ t,t<i→lessL (xs.getD t noL).e.pl p=true)→(i<xs.length→lessL (xs.getD i noL).e.pl p=false)→cntE (lE xs) p=i):=fun i hi h1 h2=>cnt_at _ _ i (by rw [lE_len];exact hi) (fun t ht=>by rw [lE_at];exact h1 t ht) (fun h3=>by rw [lE_len] at h3;rw [lE_at];exact h2 h3)
 have HH:Hid (∀ i,cntE (lE xs) p=i→i<xs.length→hasE (lE xs) p = !lessL p (xs.getD i noL).e.pl):=fun i h1 h2=>by rw [←lE_at];exact (has_in h1 (by rw [lE_len];exact h2)).1
 have HH2:Hid (∀ i,cntE (lE xs) p=i→xs.length≤i→hasE (lE xs) p=false):=fun i h1 h2=>(has_out h1 (by rw [lE_len];exact h2)).1
 obtain ⟨n,hnn⟩:∃ n,xs.length=n:=⟨_,rfl⟩
 obtain ⟨np,hnp⟩:∃ np,p.length=np:=⟨_,rfl⟩
 have HN:Hid (xs.length=n):=hnn
 rw [hnn] at hn HLs HLb HC HH HH2 ⊢
 rw [hnp] at HLs HLb ⊢
 generalize cntE (lE xs) p=cnt at HC HH HH2
 generalize hasE (lE xs) p=has at HH HH2
 have hn':(n:Int)≤3000:=by omega
 clear hE hS hP hnn hnp
 go_enter Tryz.func42,Tryz.ntmps42
 go_wp2_with fail
 go_loopg [6] n (fun g s6 wr => ∃ (k:Nat),k≤n∧g=n-k∧s6=.int .i64 k∧Hid (∀ t,t<k→lessL (xs.getD t noL).e.pl p=true)∧Below w.heap.size w wr)
 case atStart=>exact ⟨0,Nat.zero_le _,rfl,rfl,fun t ht=>absurd ht (Nat.not_lt_zero _),Below.refl _ _⟩
 case round =>
  obtain ⟨k,hk,rfl,rfl,HLt,hBw⟩:=hrel
  have HBw:Hid (Below w.heap.size w wr):=hBw
  by_cases hlt:k<n
  ·obtain ⟨-,-,h0 | ⟨b,o,rfl,hA⟩⟩:=HE.out.later hBw
   ·have:=HN.out;rw [h0] at this;simp at this;omega
   obtain ⟨c1,-⟩:=hA.at (k:=k) (by rw [HN.out];exact hlt)
   have h1:=HLs.out k wr hlt hBw
   have HLk:Hid (∀ w',Below w.heap.size w w'→Calls Tryz.prog 62 #[.slice Ap np cp,.slice (xs.getD k noL).A (xs.getD k noL).e.pl.length (xs.getD k noL).c] w' fun e w''=>e=.returned (.bool (lessL p (xs.getD k noL).e.pl))∧Below w'.heap.size w' w''):=fun w' hw'=>HLb.out k w' hlt hw'
   have hki:(k:Int)<(n:Int):=by omega
   have hbb:=hA.1
   cases hl:lessL (xs.getD k noL).e.pl p
   ·have HCN:Hid (cnt=k):=HC.out k hk HLt.out (fun _=>hl)
    have HHI:Hid (has = !lessL p (xs.getD k noL).e.pl):=HH.out k HCN.out hlt
    rw [hl] at h1
    generalize lessL p (xs.getD k noL).e.pl=bk at HLk HHI
    generalize (xs.getD k noL).A=A1 at c1 h1 HLk
    generalize (xs.getD k noL).c=k1 at c1 h1 HLk
    generalize (xs.getD k noL).e.pl.length=m1 at c1 h1 HLk
    have hne:((k:Int) == (n:Int))=false:=by simp;omega
    clear hl hA hBw
    go_wp2_with fail
    refine h1.mono ?_
    rintro e w1 ⟨rfl,hb1⟩
    have hB1:Below w.heap.size w w1:=onB HBw.out hb1
    have HB1:Hid (Below w.heap.size w w1):=hB1
    have d1:w1.cell? ⟨b,o+k*2,none⟩=some (.slice A1 m1 k1):=(hb1.cell (p:=⟨b,o+k*2,none⟩) hbb).trans c1
    have h2:=HLk.out w1 hB1
    clear hb1 h1 c1 hB1
    go_wp2_with fail
    refine h2.mono ?_
    rintro e w2 ⟨rfl,hb2⟩
    have HB2:Hid (Below w.heap.size w w2):=onB HB1.out hb2
    clear hb2 h2 d1
    go_wp2_with fail
    go_ret2
    rw [HCN.out,HHI.out]
    exact ⟨rfl,HB2.out⟩
   ·have HT:Hid (∀ t,t<k+1→lessL (xs.getD t noL).e.pl p=true):=fun t ht=>by
     rcases Nat.lt_succ_iff_lt_or_eq.1 ht with h2 | rfl
     ·exact HLt.out t h2
     ·exact hl
    rw [hl] at h1
    generalize (xs.getD k noL).A=A1 at c1 h1
    generalize (xs.getD k noL).c=k1 at c1 h1
    generalize (xs.getD k noL).e.pl.length=m1 at c1 h1
    clear hl hA hBw HLk
    go_wp2_with fail
    refine h1.mono ?_
    rintro e w1 ⟨rfl,hb1⟩
    have HB1:Hid (Below w.heap.size w w1):=onB HBw.out hb1
    clear hb1 h1 c1
    go_wp2_with fail
    go_roundg (n-(k+1))
    case measure=>omega
    case rel=>exact ⟨k+1,by omega,rfl,by go_num,HT,HB1.out⟩
  ·have hke:k=n:=by omega
   subst hke
   have HCN:Hid (cnt=k):=HC.out k hk HLt.out (fun h=>absurd h (Nat.lt_irrefl _))
   have HHI:Hid (has=false):=HH2.out k HCN.out (Nat.le_refl _)
   go_wp2_with fail
   go_ret2
   rw [HCN.out,HHI.out]
   exact ⟨rfl,hBw⟩
end Go.Proofs.YtenlladggdcfnaaGreatDoor
