/-
  What Print of package formula answers, in whatever memory: of any nodes their text, node by node.
-/
import Derived.Lib.ItoaLen
import Derived.Lib.AppendIntMem
import Derived.Test.YtfldgghobddgkaaGreatDoorJDAR
namespace Go.Proofs.YtfldgghobddgkaaGreatDoor
open Go.ChangeShapes Go.WideShapes Go.ChangeAt Go.RowKit
set_option maxRecDepth 20000
def noT:ByteArray:=⟨#[]⟩
def sgnT (op:Int):ByteArray:=if op=3 then ⟨#[43]⟩ else if op=4 then ⟨#[45]⟩ else if op=5 then ⟨#[42]⟩ else ⟨#[47]⟩
def txt (l:List Nd) (T:List ByteArray) (x:Nd):ByteArray :=
 if x.op=1 then ⟨(Lib.itoa x.n).toArray⟩ else if x.op=2 then x.name
 else brk (T.getD x.left.toNat noT) (decide (bindN (l.getD x.left.toNat noN).op<bindN x.op)) ++ sgnT x.op ++ brk (T.getD x.right.toNat noT) (decide (bindN (l.getD x.right.toNat noN).op≤bindN x.op))
def textsTo (l:List Nd):Nat→List ByteArray
 | 0=>List.replicate l.length noT
 | k+1=>(textsTo l k).set k (txt l (textsTo l k) (l.getD k noN))
def printT (l:List Nd):ByteArray:=if formErr l=0 then (textsTo l l.length).getD (l.length-1) noT else noT
theorem texts_len (l:List Nd):∀ k,(textsTo l k).length=l.length
 | 0=>by simp [textsTo]
 | k+1=>by rw [textsTo,List.length_set,texts_len l k]
theorem brk_size (t:ByteArray) (b:Bool):(brk t b).size≤t.size+2:=by
 unfold brk
 split
 ·rw [ByteArray.size_append,ByteArray.size_append]
  show 1+t.size+1≤_
  omega
 ·omega
theorem sgn_size (op:Int):(sgnT op).size=1:=by
 unfold sgnT
 split
 ·rfl
 ·split
  ·rfl
  ·split <;> rfl
theorem texts_size {l:List Nd} (hg:∀ j,j<l.length→ndErr (l.getD j noN) j=0):∀ k,k≤l.length→∀ j,((textsTo l k).getD j noT).size+5≤100*2 ^ k
 | 0,_,j=>by
  rw [textsTo,List.getD_eq_getElem?_getD,List.getElem?_replicate]
  split
  ·show 0+5≤100*1;omega
  ·show 0+5≤100*1;omega
 | k+1,hk,j=>by
  have ih:=texts_size hg k (by omega)
  have h0:=ih 0
  have hp:100*2 ^ (k+1)=2*(100*2 ^ k):=by rw [Nat.pow_succ];omega
  have hone:1≤2 ^ k:=Nat.one_le_two_pow
  rw [textsTo,List.getD_eq_getElem?_getD,List.getElem?_set]
  by_cases e:k=j
  ·subst e
   rw [if_pos rfl,if_pos (by rw [texts_len];omega)]
   simp only [Option.getD_some]
   have hgk:=hg k (by omega)
   unfold txt
   split
   ·rename_i h1
    have hn:0≤(l.getD k noN).n∧(l.getD k noN).n≤1000000:=by
     unfold ndErr at hgk
     rw [if_neg (by omega),if_pos h1] at hgk
     split at hgk
     ·cases hgk
     ·omega
    have:=Lib.itoa_length_le (l.getD k noN).n (by omega) (by omega)
    have hs:(ByteArray.mk (Lib.itoa (l.getD k noN).n).toArray).size=(Lib.itoa (l.getD k noN).n).length:=by simp [ByteArray.size]
    omega
   ·split
    ·rename_i h1 h2
     have hn:nameErr (l.getD k noN).name=0:=by
      unfold ndErr at hgk
      rw [if_neg (by omega),if_neg h1,if_pos h2] at hgk
      split at hgk
      ·cases hgk
      ·rename_i h;simpa using h
     have:(l.getD k noN).name.size≤8:=by
      unfold nameErr at hn
      split at hn
      ·cases hn
      ·omega
     omega
    ·have a1:=brk_size ((textsTo l k).getD (l.getD k noN).left.toNat noT) (decide (bindN (l.getD (l.getD k noN).left.toNat noN).op<bindN (l.getD k noN).op))
     have a2:=brk_size ((textsTo l k).getD (l.getD k noN).right.toNat noT) (decide (bindN (l.getD (l.getD k noN).right.toNat noN).op≤bindN (l.getD k noN).op))
     have a3:=ih (l.getD k noN).left.toNat
     have a4:=ih (l.getD k noN).right.toNat
     have a5:=sgn_size (l.getD k noN).op
     rw [ByteArray.size_append,ByteArray.size_append]
     omega
  ·rw [if_neg e,←List.getD_eq_getElem?_getD]
   have:=ih j
   omega
theorem bindsS (op:Int) (w:World):Calls Tryz.prog 127 #[.int .i64 op] w fun e w'=>e=.returned (.int .i64 (bindN op))∧w'=w:=by
 unfold bindN
 by_cases h3:op=3
 ·subst h3
  go_enter Tryz.func127,Tryz.ntmps127
  go_wp2
  go_ret
  exact ⟨by simp,rfl⟩
 by_cases h4:op=4
 ·subst h4
  go_enter Tryz.func127,Tryz.ntmps127
  go_wp2
  go_ret
  exact ⟨by simp,rfl⟩
 by_cases h5:op=5
 ·subst h5
  go_enter Tryz.func127,Tryz.ntmps127
  go_wp2
  go_ret
  exact ⟨by simp,rfl⟩
 by_cases h6:op=6
 ·subst h6
  go_enter Tryz.func127,Tryz.ntmps127
  go_wp2
  go_ret
  exact ⟨by simp,rfl⟩
 rw [if_neg (by omega),if_neg (by omega)]
 go_enter Tryz.func127,Tryz.ntmps127
 go_wp2
 go_ret
 exact ⟨rfl,rfl⟩
theorem brkS (t:ByteArray) (b:Bool) (ht:t.size≤4611686018427387904) (w:World):Calls Tryz.prog 126 #[.string t,.bool b] w fun e w'=>e=.returned (.string (brk t b))∧w'=w:=by
 have h1 : ¬ 9223372036854775807<1+t.size:=by omega
 have h2 : ¬ 9223372036854775807<1+t.size+1:=by omega
 cases b
 ·go_enter Tryz.func126,Tryz.ntmps126
  go_wp2
  go_ret
  exact ⟨rfl,rfl⟩
 ·go_enter Tryz.func126,Tryz.ntmps126
  go_wp2
  go_ret
  exact ⟨rfl,rfl⟩
def StrB (w:World) (g:Nat) (L:List ByteArray):Prop:=w.heap[g]?=some (.cells (L.map Value.string).toArray 9 (0,0))
section
variable {w w':World} {g:Nat} {L:List ByteArray}
theorem StrB.lt (h:StrB w g L):g<w.heap.size:=(Array.getElem?_eq_some_iff.1 h).1
theorem StrB.cell (h:StrB w g L) {j:Nat} (hj:j<L.length):w.cell? ⟨g,j,none⟩=some (.string (L.getD j noT)):=by
 unfold StrB at h
 simp [World.cell?,h,List.getD,List.getElem?_eq_getElem hj]
theorem StrB.frozen (h:StrB w g L) (j:Nat):w.frozen? ⟨g,j,none⟩=false:=by unfold StrB at h;simp [World.frozen?,h]
theorem StrB.later (h:StrB w g L) (hB:Below w.heap.size w w'):StrB w' g L:=(hB.block g h.lt).trans h
theorem StrB.set (h:StrB w g L) (j:Nat) (x:ByteArray):StrB (w.setCell ⟨g,j,none⟩ (.string x)) g (L.set j x):=by
 unfold StrB at *
 rw [setCell_eq_setRow w g j _ _ (0,0) _ h,setRow_heap w g _ _ _ _ h,List.setIfInBounds_toArray,List.map_set]
theorem StrB.made (w:World) (n:Nat):StrB (w.alloc (.cells (madeCells #[.string ⟨#[]⟩] n) 9)) w.heap.size (List.replicate n noT):=by
 unfold StrB
 rw [heap_alloc_new]
 have:madeCells #[.string ⟨#[]⟩] n=((List.replicate n noT).map Value.string).toArray:=by
  apply Array.ext
  ·simp [madeCells]
  ·intro i h1 h2
   simp [madeCells,Nat.mod_one,noT]
 rw [this]
end
theorem Tryz.infoStrF:(Tryz.prog.info? 9).map (fun i=>(i.zero,i.size,i.bytes))=some (some (.string ⟨#[]⟩),1,16):=by kernel_rfl
def TabE (w : World) : Prop := Lib.TabIs Tryz.prog w "internal/strconv.uint64pow10" .u64 Lib.pow10Tab
theorem TabE.later {w w':World} (h:TabE w) (hb:Below w.heap.size w w'):TabE w':=Lib.tabBelow_of_tabIs h w' hb
theorem itoaF (n:Int) (w:World) (h0 : -9223372036854775808≤n) (h1:n≤9223372036854775807) (hE:TabE w):Calls Tryz.prog 125 #[.int .i64 n] w fun e w'=>e=.returned (.string ⟨(Lib.itoa n).toArray⟩)∧Below w.heap.size w w' :=
 (Any.strconv_Itoa Tryz.laysM171 n h0 h1 w hE).mono fun e w' ⟨he,k,os,hw⟩=>⟨he,by rw [hw];exact Lib.below_grow _ _ (Nat.le_refl _) _ _⟩
theorem texts_step {l:List Nd} {k:Nat} {x:Nd} {t:ByteArray} (hx:l.getD k noN=x) (ht:txt l (textsTo l k) x=t):textsTo l (k+1)=(textsTo l k).set k t:=by rw [textsTo,hx,ht]
theorem txt_num {l:List Nd} {T:List ByteArray} {x:Nd} (h:x.op=1):txt l T x=⟨(Lib.itoa x.n).toArray⟩:=by rw [txt,if_pos h]
theorem txt_ref {l:List Nd} {T:List ByteArray} {x:Nd} (h:x.op=2):txt l T x=x.name:=by rw [txt,if_neg (by omega),if_pos h]
theorem txt_op {l:List Nd} {T:List ByteArray} {x:Nd} {a c:Nat} (h:2<x.op) (ha:x.left=a) (hc:x.right=c):txt l T x=brk (T.getD a noT) (decide (bindN (l.getD a noN).op<bindN x.op)) ++ sgnT x.op ++ brk (T.getD c noT) (decide (bindN (l.getD c noN).op≤bindN x.op)):=by
 rw [txt,if_neg (by omega),if_neg (by omega),ha,hc]
 rfl
theorem enc0:sgnT 3=Utf8.encode (((ByteArray.mk #[43,45,42,47])[0]'(by decide)).toNat:Int):=by kernel_rfl
theorem encs0:(Utf8.encode (((ByteArray.mk #[43,45,42,47])[0]'(by decide)).toNat:Int)).size=1:=by rw [←enc0];rfl
theorem enc1:sgnT 4=Utf8.encode (((ByteArray.mk #[43,45,42,47])[1]'(by decide)).toNat:Int):=by kernel_rfl
theorem encs1:(Utf8.encode (((ByteArray.mk #[43,45,42,47])[1]'(by decide)).toNat:Int)).size=1:=by rw [←enc1];rfl
theorem enc2:sgnT 5=Utf8.encode (((ByteArray.mk #[43,45,42,47])[2]'(by decide)).toNat:Int):=by kernel_rfl
theorem encs2:(Utf8.encode (((ByteArray.mk #[43,45,42,47])[2]'(by decide)).toNat:Int)).size=1:=by rw [←enc2];rfl
theorem enc3:sgnT 6=Utf8.encode (((ByteArray.mk #[43,45,42,47])[3]'(by decide)).toNat:Int):=by kernel_rfl
theorem encs3:(Utf8.encode (((ByteArray.mk #[43,45,42,47])[3]'(by decide)).toNat:Int)).size=1:=by rw [←enc3];rfl
set_option maxRecDepth 100000 in
set_option maxHeartbeats 4000000 in
theorem fprint_any (A:Option Addr) (cap:Nat) (l:List Nd) (w:World) (hE:TabE w) (hN:NdsV w A cap l):Calls Tryz.prog 100 #[.slice A l.length cap] w fun e w'=>e=.returned (.tuple #[.string (printT l),errV (formErr l)])∧Below w.heap.size w w':=by
 have hck:=fchk_any A cap l w hN
 by_cases h0:formErr l=0
 case neg =>
  have hP:printT l=⟨#[]⟩:=by unfold printT;rw [if_neg h0];rfl
  rw [hP]
  rw [errV_some h0] at hck ⊢
  clear h0 hP
  go_enter Tryz.func100,Tryz.ntmps100
  go_wp2_with fail
  refine hck.mono ?_
  rintro e w1 ⟨rfl,hb1⟩
  go_wp2_with fail
  go_returns
  exact ⟨rfl,hb1⟩
 obtain ⟨hl0,hl30,hg,-⟩:=form_right h0
 have hP:printT l=(textsTo l l.length).getD (l.length-1) noT:=by unfold printT;rw [if_pos h0]
 rw [h0,errV_zero] at hck ⊢
 rw [hP]
 obtain ⟨-,-,h1 | ⟨b,o,rfl,hN⟩⟩:=hN
 ·rw [h1] at hl0;simp at hl0
 have HG:Hid (∀ j,j<l.length→ndErr (l.getD j noN) j=0):=hg
 have HN:Hid (NdsAt w b o l):=hN
 have HE:Hid (TabE w):=hE
 have hmk:=run_make_row' (P:=Tryz.prog) 188 9 (.string ⟨#[]⟩) 16 Tryz.underlying188 Tryz.infoStrF rfl .i64 .i64 l.length (by omega) (by omega)
 obtain ⟨n,hn⟩:∃ n,l.length=n:=⟨_,rfl⟩
 have HL:Hid (l.length=n):=hn
 rw [hn] at hmk hck ⊢
 have hni:(n:Int)≤30:=by omega
 have hn0:0<(n:Int):=by omega
 clear h0 hP hg hN hE
 go_enter Tryz.func100,Tryz.ntmps100
 go_wp2_with fail
 refine hck.mono ?_
 rintro e w1 ⟨rfl,hb1⟩
 have HB1:Hid (Below w.heap.size w w1):=hb1
 clear hb1 hck
 go_wp2_with fail
 go_loopg [20] n (fun g s20 wr => ∃ (k:Nat),k≤n∧g=n-k∧s20=.int .i64 k∧StrB wr w1.heap.size (textsTo l k)∧Below w1.heap.size w1 wr)
 case atStart=>exact ⟨0,Nat.zero_le _,rfl,rfl,by rw [textsTo,HL.out];exact StrB.made w1 n,by go_grown⟩
 case round =>
  obtain ⟨k,hk,rfl,rfl,hS,hBw⟩:=hrel
  have HS:Hid (StrB wr w1.heap.size (textsTo l k)):=hS
  have HW:Hid (Below w1.heap.size w1 wr):=hBw
  clear hS hBw
  by_cases hlt:k<n
  ·have hki:(k:Int)<(n:Int):=by omega
   have HBw:Hid (Below w.heap.size w wr):=onB HB1.out HW.out
   obtain ⟨x0,x1,x2,x3,x4⟩:=(HN.out.later HBw.out).nd (k:=k) (by omega)
   have hbl:b<w.heap.size:=HN.out.1
   have hsz:=HBw.out.size
   have hsz1:=HB1.out.size
   have hgl:=HS.out.lt
   have hgk:=HG.out k (by omega)
   obtain ⟨x,hx⟩:∃ x,l.getD k noN=x:=⟨_,rfl⟩
   have HX:Hid (l.getD k noN=x):=hx
   rw [hx] at x0 x1 x2 x3 x4 hgk
   clear hx
   have hlen:(textsTo l k).length=n:=by rw [texts_len];exact hn
   by_cases h1:x.op=1
   ·have HT:=hid_of (texts_step HX.out (txt_num (l:=l) (T:=textsTo l k) h1))
    have hnr:0≤x.n∧x.n≤1000000:=by
     unfold ndErr at hgk
     rw [if_neg (by omega),if_pos h1] at hgk
     split at hgk
     ·cases hgk
     ·omega
    have hIt:=fun w' hE=>itoaF x.n w' (by omega) (by omega) hE
    rw [h1] at x0
    clear hgk
    go_wp2_with fail
    refine (hIt _ (HE.out.later (onB HBw.out (by go_grown)))).mono ?_
    rintro e w2 ⟨rfl,hb2⟩
    have HB2:Hid (Below wr.heap.size wr w2):=onB (by go_grown) hb2
    have y1:=(HS.out.later HB2.out).cell (j:=k) (by omega)
    have y2:=(HS.out.later HB2.out).frozen k
    clear hb2 hIt
    go_wp2_with fail
    go_roundg (n-(k+1))
    case measure=>omega
    case rel=>exact ⟨k+1,by omega,rfl,by go_num,by rw [HT.out];exact (HS.out.later HB2.out).set k _,(onB HW.out HB2.out).setCell (Nat.le_refl _) _⟩
   by_cases h2:x.op=2
   ·have HT:=hid_of (texts_step HX.out (txt_ref (l:=l) (T:=textsTo l k) h2))
    have hnm:nameErr x.name=0:=by
     unfold ndErr at hgk
     rw [if_neg (by omega),if_neg h1,if_pos h2] at hgk
     split at hgk
     ·cases hgk
     ·rename_i h;simpa using h
    have hns:x.name.size≤8:=by
     unfold nameErr at hnm
     split at hnm
     ·cases hnm
     ·omega
    have hcl:=fun w=>sclone_any x.name w (by omega)
    rw [h2] at x0
    clear hgk hnm
    go_wp2_with fail
    refine (hcl _).mono ?_
    rintro e w2 ⟨rfl,hb2⟩
    have HB2:Hid (Below wr.heap.size wr w2):=onB (by go_grown) hb2
    have y1:=(HS.out.later HB2.out).cell (j:=k) (by omega)
    have y2:=(HS.out.later HB2.out).frozen k
    clear hb2 hcl
    go_wp2_with fail
    go_roundg (n-(k+1))
    case measure=>omega
    case rel=>exact ⟨k+1,by omega,rfl,by go_num,by rw [HT.out];exact (HS.out.later HB2.out).set k _,(onB HW.out HB2.out).setCell (Nat.le_refl _) _⟩
   ·have hop:3≤x.op∧x.op≤6:=by
     unfold ndErr at hgk
     split at hgk
     ·cases hgk
     ·omega
    obtain ⟨l0,l1,r0,r1⟩:=nd_sides hgk (by omega)
    obtain ⟨a,ha⟩:∃ a:Nat,x.left=a:=⟨x.left.toNat,by omega⟩
    obtain ⟨c,hc⟩:∃ c:Nat,x.right=c:=⟨x.right.toNat,by omega⟩
    have hal:a<n:=by omega
    have hcl:c<n:=by omega
    have HT:=hid_of (texts_step HX.out (txt_op (l:=l) (T:=textsTo l k) (a:=a) (c:=c) (by omega) ha hc))
    obtain ⟨W,hW⟩:∃ W,wr.alloc (.cells #[.int .i64 x.op,.int .i64 x.n,.string x.name,.int .i64 x.left,.int .i64 x.right] 62)=W:=⟨_,rfl⟩
    have hBW:Below wr.heap.size wr W:=by rw [←hW];exact (Below.refl _ _).alloc (Nat.le_refl _) _
    have HBW:Hid (Below wr.heap.size wr W):=hBW
    have hbox:W.heap[wr.heap.size]?=some (.cells #[.int .i64 x.op,.int .i64 x.n,.string x.name,.int .i64 x.left,.int .i64 x.right] 62 (0,0)):=by rw [←hW];exact heap_alloc_new _ _
    have z0:W.cell? ⟨wr.heap.size,0,none⟩=some (.int .i64 x.op):=by simp [World.cell?,hbox]
    have z3:W.cell? ⟨wr.heap.size,3,none⟩=some (.int .i64 a):=by simp [World.cell?,hbox,ha]
    have z4:W.cell? ⟨wr.heap.size,4,none⟩=some (.int .i64 c):=by simp [World.cell?,hbox,hc]
    have HSW:Hid (StrB W w1.heap.size (textsTo l k)):=HS.out.later hBW
    have ta:=HSW.out.cell (j:=a) (by omega)
    have tc:=HSW.out.cell (j:=c) (by omega)
    have hHN:=HN.out.later (onB HBw.out hBW)
    obtain ⟨q1,-⟩:=hHN.nd (k:=a) (by omega)
    obtain ⟨q2,-⟩:=hHN.nd (k:=c) (by omega)
    have sa:=texts_size HG.out k (by omega) a
    have sc:=texts_size HG.out k (by omega) c
    have h2k:100*2 ^ k≤100*2 ^ 30:=Nat.mul_le_mul_left _ (Nat.pow_le_pow_right (by omega) (by omega))
    have h230:(100*2 ^ 30:Nat)=107374182400:=by decide
    obtain ⟨tA,htA⟩:∃ t,(textsTo l k).getD a noT=t:=⟨_,rfl⟩
    obtain ⟨tC,htC⟩:∃ t,(textsTo l k).getD c noT=t:=⟨_,rfl⟩
    obtain ⟨oA,hoA⟩:∃ t,(l.getD a noN).op=t:=⟨_,rfl⟩
    obtain ⟨oC,hoC⟩:∃ t,(l.getD c noN).op=t:=⟨_,rfl⟩
    rw [htA] at ta sa HT
    rw [htC] at tc sc HT
    rw [hoA] at q1 HT
    rw [hoC] at q2 HT
    have hbA:=fun b w=>brkS tA b (by omega) w
    have hbC:=fun b w=>brkS tC b (by omega) w
    have uA:=brk_size tA (decide (bindN oA<bindN x.op))
    have uC:=brk_size tC (decide (bindN oC≤bindN x.op))
    have hai:(a:Int)<(n:Int):=by omega
    have hci:(c:Int)<(n:Int):=by omega
    have y1:=HSW.out.cell (j:=k) (by omega)
    have y2:=HSW.out.frozen k
    have hgW:w1.heap.size<W.heap.size:=HSW.out.lt
    have hbW:b<W.heap.size:=hHN.1
    have hzW:wr.heap.size<W.heap.size:=(Array.getElem?_eq_some_iff.1 hbox).1
    have sA':tA.size≤200000000000:=by omega
    have sC':tC.size≤200000000000:=by omega
    obtain ⟨ov,hov⟩:∃ ov,x.op=ov:=⟨_,rfl⟩
    rw [hov] at hW x0 z0 HT uA uC hop h1 h2
    rw [ha,hc] at hW
    have hs1 : ¬ 9223372036854775807<(brk tA (decide (bindN oA<bindN ov))).size+1:=by omega
    have hs2 : ¬ 9223372036854775807<(brk tA (decide (bindN oA<bindN ov))).size+1+(brk tC (decide (bindN oC≤bindN ov))).size:=by omega
    have e1:(ov == 1)=false:=by simpa using h1
    have e2:(ov == 2)=false:=by simpa using h2
    clear hbox hHN htA htC hoA hoC l0 l1 r0 r1 hgk hBW h2k h230 sa sc hov h1 h2
    go_wp2_with fail
    go_quiet (first
     | (go_at_call 127;exact Calls.quiet_of_same (bindsS _ _))
     | (go_at_call 126;exact Calls.quiet_of_same (hbA _ _)))
    obtain ⟨W1,hW1⟩:∃ W1,W.drewN nq=W1:=⟨_,rfl⟩
    have hb1:Below W.heap.size W W1:=by rw [←hW1];exact below_drewN (Below.refl _ _) _
    have z0':=(hb1.cell (p:=⟨wr.heap.size,0,none⟩) hzW).trans z0
    have z4':=(hb1.cell (p:=⟨wr.heap.size,4,none⟩) hzW).trans z4
    have tc':=(hb1.cell (p:=⟨w1.heap.size,c,none⟩) hgW).trans tc
    have q2':=(hb1.cell (p:=⟨b,o+c*5,none⟩) hbW).trans q2
    have HS1:Hid (StrB W1 w1.heap.size (textsTo l k)):=HSW.out.later hb1
    have HB1w:Hid (Below w1.heap.size w1 W1):=onB HW.out (onB HBW.out hb1)
    have hzW1:wr.heap.size<W1.heap.size:=Nat.lt_of_lt_of_le hzW hb1.size
    rw [hW1]
    clear hb1 hW1 z0 z3 z4 ta tc q1 q2 y1 y2 hW
    go_wp2_with fail
    go_quiet (first
     | (go_at_call 127;exact Calls.quiet_of_same (bindsS _ _))
     | (go_at_call 126;exact Calls.quiet_of_same (hbC _ _)))
    obtain ⟨W2,hW2⟩:∃ W2,W1.drewN nq=W2:=⟨_,rfl⟩
    have hb2:Below W1.heap.size W1 W2:=by rw [←hW2];exact below_drewN (Below.refl _ _) _
    have v0:=(hb2.cell (p:=⟨wr.heap.size,0,none⟩) hzW1).trans z0'
    have HSq:Hid (StrB W2 w1.heap.size (textsTo l k)):=HS1.out.later hb2
    have HBq:Hid (Below w1.heap.size w1 W2):=onB HB1w.out hb2
    have y1:=HSq.out.cell (j:=k) (by omega)
    have y2:=HSq.out.frozen k
    rw [hW2]
    clear hb2 hW2 z0' z4' tc' q2' hbA hbC
    have hovc:ov=3∨ov=4∨ov=5∨ov=6:=by omega
    clear hs1 hs2
    rcases hovc with rfl | rfl | rfl | rfl
    all_goals
     have es0:=encs0
     have es1:=encs1
     have es2:=encs2
     have es3:=encs3
     go_wp2_with fail
     go_roundg (n-(k+1))
     case measure=>omega
     case rel=>exact ⟨k+1,by omega,rfl,by go_num,by rw [HT.out];first | (rw [enc0];exact HSq.out.set k _) | (rw [enc1];exact HSq.out.set k _) | (rw [enc2];exact HSq.out.set k _) | (rw [enc3];exact HSq.out.set k _),HBq.out.setCell (Nat.le_refl _) _⟩
  ·have hke:k=n:=by omega
   subst hke
   have y1:=HS.out.cell (j:=k-1) (by rw [texts_len,HL.out];omega)
   have hsub:(k:Int)-1=((k-1:Nat):Int):=by omega
   obtain ⟨t,ht⟩:∃ t,(textsTo l k).getD (k-1) noT=t:=⟨_,rfl⟩
   have HT:Hid ((textsTo l k).getD (k-1) noT=t):=ht
   rw [ht] at y1
   obtain ⟨m,hm⟩:∃ m,k-1=m:=⟨_,rfl⟩
   rw [hm] at y1 hsub
   have hmk:(m:Int)<(k:Int):=by omega
   clear ht
   go_wp2_with fail
   go_returns
   exact ⟨by rw [HT.out];rfl,onB HB1.out HW.out⟩
theorem take_snoc (l:List Nd) {k:Nat} (hk:k<l.length):l.take (k+1)=l.take k ++ [l.getD k noN]:=by
 rw [List.take_add_one,List.getElem?_eq_getElem hk]
 simp [List.getD,List.getElem?_eq_getElem hk]
end Go.Proofs.YtfldgghobddgkaaGreatDoor
namespace Go.Proofs.YtfldgghobddgkaaGreatDoor
inductive Tre where
 | num (n:Int)
 | ref (s:ByteArray)
 | bin (o:Int) (a b:Tre)
def bindT:Tre→Int
 | .num _=>3
 | .ref _=>3
 | .bin o _ _=>bindN o
def sizT:Tre→Nat
 | .num _=>1
 | .ref _=>1
 | .bin _ a b=>sizT a+sizT b+1
theorem siz_pos:∀ t:Tre,1≤sizT t
 | .num _=>Nat.le_refl _
 | .ref _=>Nat.le_refl _
 | .bin _ a b=>by show 1≤sizT a+sizT b+1;omega
def post:Tre→Nat→List Nd
 | .num n,_=>[⟨1,n,noT,0,0⟩]
 | .ref s,_=>[⟨2,0,s,0,0⟩]
 | .bin o a b,k=>post a k ++ post b (k+sizT a) ++ [⟨o,0,noT,((k+sizT a-1:Nat):Int),((k+sizT a+sizT b-1:Nat):Int)⟩]
theorem post_len:∀ (t:Tre) (k:Nat),(post t k).length=sizT t
 | .num _,_=>rfl
 | .ref _,_=>rfl
 | .bin o a b,k=>by simp [post,sizT,post_len a,post_len b];omega
def numB (n:Int):ByteArray:=⟨(Lib.itoa n).toArray⟩
def brkL (l:List ByteArray) (c:Bool):List ByteArray:=if c then [⟨#[40]⟩] ++ l ++ [⟨#[41]⟩] else l
def tokT:Tre→List ByteArray
 | .num n=>[numB n]
 | .ref s=>[s]
 | .bin o a b=>brkL (tokT a) (decide (bindT a<bindN o)) ++ [sgnT o] ++ brkL (tokT b) (decide (bindT b≤bindN o))
def pushT (t:Tre) (b:Bld):Bld:=⟨b.nodes ++ post t b.nodes.length,b.ready ++ [((b.nodes.length+sizT t-1:Nat):Int)],b.waiting⟩
def Low (b:Bld) (k:Int):Prop:=b.waiting=[]∨∃ w x,b.waiting=w ++ [x]∧(x=0∨bindN x<k)
theorem Low.up {b:Bld} {k m:Int} (h:Low b k) (hm:k≤m):Low b m:=by
 rcases h with h | ⟨w,x,h,h0 | h0⟩
 ·exact Or.inl h
 ·exact Or.inr ⟨w,x,h,Or.inl h0⟩
 ·exact Or.inr ⟨w,x,h,Or.inr (by omega)⟩
theorem settle_low {b:Bld} {k:Int} (h:Low b k):settleB k b=b:=by
 unfold settleB
 rcases h with h | ⟨w,x,h,h0⟩
 ·rw [h];rfl
 ·rw [h,List.length_append,List.length_singleton]
  have e:b.waiting.getD w.length 0=x:=by rw [h];simp [List.getD]
  exact settle_stop (by rw [e];exact h0)
theorem settle_pop {n:List Nd} {r w:List Int} {o least:Int} (h0:o≠0) (h:least≤bindN o):settleB least ⟨n,r,w ++ [o]⟩=settleB least (joinBd o ⟨n,r,w⟩):=by
 unfold settleB
 have e1:(w ++ [o]).length=w.length+1:=by simp
 have e2:(w ++ [o]).getD w.length 0=o:=by simp [List.getD]
 have e3:(w ++ [o]).take w.length=w:=by simp
 show settleTo least (w ++ [o]).length _=_
 rw [e1,settle_on (by show ¬ ((w ++ [o]).getD w.length 0=0∨bindN ((w ++ [o]).getD w.length 0)<least);rw [e2];omega)]
 show settleTo least w.length (joinBd ((w ++ [o]).getD w.length 0) ⟨n,r,(w ++ [o]).take w.length⟩)=settleTo least (joinBd o ⟨n,r,w⟩).waiting.length _
 rw [e2,e3]
 rfl
theorem join_push (o:Int) (a c:Tre) (b:Bld) (w:List Int):joinBd o ⟨(pushT c ⟨(pushT a b).nodes,(pushT a b).ready,w⟩).nodes,(pushT c ⟨(pushT a b).nodes,(pushT a b).ready,w⟩).ready,b.waiting⟩=pushT (.bin o a c) b:=by
 have l1:(b.nodes ++ post a b.nodes.length).length=b.nodes.length+sizT a:=by simp [post_len]
 have pa:=siz_pos a
 have pc:=siz_pos c
 unfold joinBd pushT addB
 simp only [post,sizT,l1,List.length_append,List.length_singleton,post_len]
 have e1:b.ready.length+1+1-2=b.ready.length:=by omega
 rw [e1]
 have g1:(b.ready ++ [((b.nodes.length+sizT a-1:Nat):Int)] ++ [((b.nodes.length+sizT a+sizT c-1:Nat):Int)]).getD b.ready.length 0=((b.nodes.length+sizT a-1:Nat):Int):=by simp [List.getD]
 have g2:(b.ready ++ [((b.nodes.length+sizT a-1:Nat):Int)] ++ [((b.nodes.length+sizT a+sizT c-1:Nat):Int)]).getD (b.ready.length+1) 0=((b.nodes.length+sizT a+sizT c-1:Nat):Int):=by simp [List.getD]
 have g3:(b.ready ++ [((b.nodes.length+sizT a-1:Nat):Int)] ++ [((b.nodes.length+sizT a+sizT c-1:Nat):Int)]).take b.ready.length=b.ready:=by simp
 rw [g1,g2,g3]
 congr 1
 ·simp [noT]
 ·congr 2
  omega
theorem take_open (b:Bld):takeB b ⟨#[40]⟩=⟨b.nodes,b.ready,b.waiting ++ [0]⟩:=by
 rw [takeB,if_pos (by decide)]
theorem take_close (b:Bld):takeB b ⟨#[41]⟩=⟨(settleB 0 b).nodes,(settleB 0 b).ready,(settleB 0 b).waiting.take ((settleB 0 b).waiting.length-1)⟩:=by
 rw [takeB,if_neg (by decide),if_pos (by decide)]
theorem take_sign (b:Bld) {o:Int} (h:3≤o∧o≤6):takeB b (sgnT o)=⟨(settleB (bindN o) b).nodes,(settleB (bindN o) b).ready,(settleB (bindN o) b).waiting ++ [o]⟩:=by
 have hc:o=3∨o=4∨o=5∨o=6:=by omega
 rcases hc with rfl | rfl | rfl | rfl
 ·rw [takeB,if_neg (by decide),if_neg (by decide),if_pos (by decide)];rfl
 ·rw [takeB,if_neg (by decide),if_neg (by decide),if_pos (by decide)];rfl
 ·rw [takeB,if_neg (by decide),if_neg (by decide),if_pos (by decide)];rfl
 ·rw [takeB,if_neg (by decide),if_neg (by decide),if_pos (by decide)];rfl
theorem low_open (n:List Nd) (r w:List Int) (k:Int):Low ⟨n,r,w ++ [0]⟩ k:=Or.inr ⟨w,0,rfl,Or.inl rfl⟩
theorem low_push {b:Bld} {k:Int} (t:Tre) (h:Low b k):Low (pushT t b) k:=h
theorem take_brk {l:List ByteArray} {t:Tre} {b:Bld} (ih:settleB 0 (l.foldl takeB ⟨b.nodes,b.ready,b.waiting ++ [0]⟩)=settleB 0 (pushT t ⟨b.nodes,b.ready,b.waiting ++ [0]⟩)):(brkL l true).foldl takeB b=pushT t b:=by
 show ([ByteArray.mk #[40]] ++ l ++ [ByteArray.mk #[41]]).foldl takeB b=_
 rw [List.foldl_append,List.foldl_append]
 show takeB (l.foldl takeB (takeB b ⟨#[40]⟩)) ⟨#[41]⟩=_
 rw [take_open,take_close,ih,settle_low (low_push t (low_open _ _ _ _))]
 simp [pushT]
section
variable {S:Type} (s:ByteArray) (tk:S→ByteArray→S)
def runR:Nat→Bool→Rd S→Rd S×Bool
 | 0,_,r=>(r,false)
 | f+1,false,r =>
  if nextB s r.at'=40 then runR f false (wordR s tk 1 ⟨r.at',r.opn+1,r.st⟩)
  else if digB (nextB s r.at') then runR f true (wordR s tk (digitsN s r.at') r)
  else if letB (nextB s r.at') then runR f true (wordR s tk (leadN letB (s.extract r.at' s.size)) r)
  else (r,false)
 | f+1,true,r =>
  if 0<r.opn∧nextB s r.at'=41 then runR f true (wordR s tk 1 ⟨r.at',r.opn-1,r.st⟩)
  else if r.at'<s.size then (if signI (nextB s r.at')<0 then (r,false) else runR f false (wordR s tk 1 r))
  else (r,decide (r.opn=0))
end
section
variable {S:Type} {s:ByteArray} {tk:S→ByteArray→S}
theorem dig_pos {a:Nat} (ha:a≤s.size) (h:digB (nextB s a)=true):1≤digitsN s a∧a+digitsN s a≤s.size:=by
 have hlt:a<s.size:=next_zero (fun e=>by rw [e] at h;revert h;decide) ha
 have h1:=(lead_word (n:=0) hlt h (Nat.zero_le _)).1
 refine ⟨?_,(dig_word (o:=0) ha h).1⟩
 unfold digitsN
 split <;> omega
theorem let_pos {a:Nat} (ha:a≤s.size) (h:letB (nextB s a)=true):1≤leadN letB (s.extract a s.size)∧a+leadN letB (s.extract a s.size)≤s.size:=by
 have hlt:a<s.size:=next_zero (fun e=>by rw [e] at h;revert h;decide) ha
 exact ⟨(lead_word (n:=0) hlt h (Nat.zero_le _)).1,(let_word (o:=0) ha h).1⟩
theorem run_fuel:∀ (f g:Nat) (ph:Bool) (r:Rd S),r.at'≤s.size→s.size-r.at'<f→s.size-r.at'<g→runR s tk f ph r=runR s tk g ph r
 | 0,_,_,_,_,h,_=>by omega
 | _+1,0,_,_,_,_,h=>by omega
 | f+1,g+1,false,r,hr,hf,hg=>by
  rw [runR,runR]
  by_cases h1:nextB s r.at'=40
  ·rw [if_pos h1,if_pos h1]
   have h:=(opn_word (o:=0) hr h1).1
   exact run_fuel f g false _ h (by show s.size-(r.at'+1)<f;omega) (by show s.size-(r.at'+1)<g;omega)
  rw [if_neg h1,if_neg h1]
  by_cases h2:digB (nextB s r.at')=true
  ·rw [if_pos h2,if_pos h2]
   have h:=dig_pos hr h2
   exact run_fuel f g true _ h.2 (by show s.size-(r.at'+digitsN s r.at')<f;omega) (by show s.size-(r.at'+digitsN s r.at')<g;omega)
  rw [if_neg h2,if_neg h2]
  by_cases h3:letB (nextB s r.at')=true
  ·rw [if_pos h3,if_pos h3]
   have h:=let_pos hr h3
   exact run_fuel f g true _ h.2 (by show s.size-(r.at'+leadN letB (s.extract r.at' s.size))<f;omega) (by show s.size-(r.at'+leadN letB (s.extract r.at' s.size))<g;omega)
  rw [if_neg h3,if_neg h3]
 | f+1,g+1,true,r,hr,hf,hg=>by
  rw [runR,runR]
  by_cases h1:0<r.opn∧nextB s r.at'=41
  ·rw [if_pos h1,if_pos h1]
   have h:=(cls_word (o:=0) hr h1.2).1
   exact run_fuel f g true _ h (by show s.size-(r.at'+1)<f;omega) (by show s.size-(r.at'+1)<g;omega)
  rw [if_neg h1,if_neg h1]
  by_cases h2:r.at'<s.size
  ·rw [if_pos h2,if_pos h2]
   by_cases h3:signI (nextB s r.at')<0
   ·rw [if_pos h3,if_pos h3]
   ·rw [if_neg h3,if_neg h3]
    exact run_fuel f g false _ h2 (by show s.size-(r.at'+1)<f;omega) (by show s.size-(r.at'+1)<g;omega)
  ·rw [if_neg h2,if_neg h2]
end
def toEnd {S:Type} (s:ByteArray) (tk:S→ByteArray→S) (ph:Bool) (r:Rd S):Rd S×Bool:=runR s tk (s.size+1) ph r
section
variable {S:Type} {s:ByteArray} {tk:S→ByteArray→S} {r:Rd S}
theorem end_open (hr:r.at'≤s.size) (h:nextB s r.at'=40):toEnd s tk false r=toEnd s tk false (wordR s tk 1 ⟨r.at',r.opn+1,r.st⟩):=by
 have h1:=(opn_word (o:=0) hr h).1
 unfold toEnd
 rw [runR,if_pos h]
 exact run_fuel _ _ _ _ h1 (by show s.size-(r.at'+1)<_;omega) (by show s.size-(r.at'+1)<_;omega)
theorem end_dig (hr:r.at'≤s.size) (h:digB (nextB s r.at')=true):toEnd s tk false r=toEnd s tk true (wordR s tk (digitsN s r.at') r):=by
 have h1:=dig_pos hr h
 have h40:nextB s r.at'≠40:=fun e=>by rw [e] at h;revert h;decide
 unfold toEnd
 rw [runR,if_neg h40,if_pos h]
 exact run_fuel _ _ _ _ h1.2 (by show s.size-(r.at'+digitsN s r.at')<_;omega) (by show s.size-(r.at'+digitsN s r.at')<_;omega)
theorem end_let (hr:r.at'≤s.size) (h:letB (nextB s r.at')=true):toEnd s tk false r=toEnd s tk true (wordR s tk (leadN letB (s.extract r.at' s.size)) r):=by
 have h1:=let_pos hr h
 have h40:nextB s r.at'≠40:=fun e=>by rw [e] at h;revert h;decide
 have hd : ¬ digB (nextB s r.at')=true:=fun e=>by unfold digB at e;unfold letB at h;simp at e h;omega
 unfold toEnd
 rw [runR,if_neg h40,if_neg hd,if_pos h]
 exact run_fuel _ _ _ _ h1.2 (by show s.size-(r.at'+leadN letB (s.extract r.at' s.size))<_;omega) (by show s.size-(r.at'+leadN letB (s.extract r.at' s.size))<_;omega)
theorem end_none (h:nextB s r.at'≠40) (h1:digB (nextB s r.at')=false) (h2:letB (nextB s r.at')=false):toEnd s tk false r=(r,false):=by
 unfold toEnd
 rw [runR,if_neg h,if_neg (by rw [h1];decide),if_neg (by rw [h2];decide)]
theorem end_close (hr:r.at'≤s.size) (h:0<r.opn∧nextB s r.at'=41):toEnd s tk true r=toEnd s tk true (wordR s tk 1 ⟨r.at',r.opn-1,r.st⟩):=by
 have h1:=(cls_word (o:=0) hr h.2).1
 unfold toEnd
 rw [runR,if_pos h]
 exact run_fuel _ _ _ _ h1 (by show s.size-(r.at'+1)<_;omega) (by show s.size-(r.at'+1)<_;omega)
theorem end_sign (h : ¬ (0<r.opn∧nextB s r.at'=41)) (hlt:r.at'<s.size) (hs : ¬ signI (nextB s r.at')<0):toEnd s tk true r=toEnd s tk false (wordR s tk 1 r):=by
 have e:runR s tk (s.size+1) true r=runR s tk s.size false (wordR s tk 1 r):=by rw [runR,if_neg h,if_pos hlt,if_neg hs]
 unfold toEnd
 rw [e]
 exact run_fuel _ _ _ _ hlt (by show s.size-(r.at'+1)<_;omega) (by show s.size-(r.at'+1)<_;omega)
theorem end_bad (h : ¬ (0<r.opn∧nextB s r.at'=41)) (hlt:r.at'<s.size) (hs:signI (nextB s r.at')<0):toEnd s tk true r=(r,false):=by
 unfold toEnd
 rw [runR,if_neg h,if_pos hlt,if_pos hs]
theorem end_end (h : ¬ (0<r.opn∧nextB s r.at'=41)) (hlt : ¬ r.at'<s.size):toEnd s tk true r=(r,decide (r.opn=0)):=by
 unfold toEnd
 rw [runR,if_neg h,if_neg hlt]
theorem end_opens:∀ (f:Nat) (r:Rd S),r.at'≤s.size→toEnd s tk false r=toEnd s tk false (opensR s tk f r)
 | 0,_,_=>rfl
 | f+1,r,hr=>by
  rw [opensR]
  split
  ·rename_i h
   rw [end_open hr h]
   exact end_opens f _ (opn_word (o:=0) hr h).1
  ·rfl
theorem opened_ne:∀ (f:Nat) (r:Rd S),r.at'≤s.size→s.size-r.at'≤f→nextB s (opensR s tk f r).at'≠40
 | 0,r,hr,hf=>by
  have e:r.at'=s.size:=by omega
  rw [opensR,e,nextB,if_pos rfl]
  decide
 | f+1,r,hr,hf=>by
  rw [opensR]
  split
  ·rename_i h
   have h1:=(opn_word (o:=0) hr h).1
   exact opened_ne f _ h1 (by show s.size-(r.at'+1)≤f;omega)
  ·rename_i h;exact h
theorem end_closes:∀ (f:Nat) (r:Rd S),r.at'≤s.size→toEnd s tk true r=toEnd s tk true (closesR s tk f r)
 | 0,_,_=>rfl
 | f+1,r,hr=>by
  rw [closesR]
  split
  ·rename_i h
   rw [end_close hr h]
   exact end_closes f _ (cls_word (o:=0) hr h.2).1
  ·rfl
theorem closed_ne:∀ (f:Nat) (r:Rd S),r.at'≤s.size→s.size-r.at'≤f→¬ (0<(closesR s tk f r).opn∧nextB s (closesR s tk f r).at'=41)
 | 0,r,hr,hf=>by
  have e:r.at'=s.size:=by omega
  rw [closesR,e,nextB,if_pos rfl]
  intro h
  exact absurd h.2 (by decide)
 | f+1,r,hr,hf=>by
  rw [closesR]
  split
  ·rename_i h
   have h1:=(cls_word (o:=0) hr h.2).1
   exact closed_ne f _ h1 (by show s.size-(r.at'+1)≤f;omega)
  ·rename_i h;exact h
theorem end_operand (hr:r.at'≤s.size):((operandR s tk r).2=true∧toEnd s tk false r=toEnd s tk true (operandR s tk r).1∧¬ (0<(operandR s tk r).1.opn∧nextB s (operandR s tk r).1.at'=41))∨((operandR s tk r).2=false∧toEnd s tk false r=((operandR s tk r).1,false)):=by
 have ho:(openedR s tk r).at'≤s.size:=opens_in _ r hr
 have e0:toEnd s tk false r=toEnd s tk false (openedR s tk r):=end_opens _ r hr
 have hne:nextB s (openedR s tk r).at'≠40:=opened_ne _ r hr (Nat.le_refl _)
 cases hd:digB (nextB s (openedR s tk r).at')
 ·cases hl:letB (nextB s (openedR s tk r).at')
  ·right
   have e:=opnd_no (s:=s) (tk:=tk) (r:=r) hd hl
   rw [e]
   exact ⟨rfl,by rw [e0];exact end_none hne hd hl⟩
  ·left
   have e:=opnd_let (s:=s) (tk:=tk) (r:=r) hd hl
   rw [e]
   have h1:=let_pos ho hl
   refine ⟨rfl,?_,closed_ne _ _ h1.2 (by omega)⟩
   rw [e0,end_let ho hl]
   exact end_closes _ _ h1.2
 ·left
  have e:=opnd_dig (s:=s) (tk:=tk) (r:=r) hd
  rw [e]
  have h1:=dig_pos ho hd
  refine ⟨rfl,?_,closed_ne _ _ h1.2 (by omega)⟩
  rw [e0,end_dig ho hd]
  exact end_closes _ _ h1.2
theorem end_loop:∀ (f:Nat) (r:Rd S),r.at'≤s.size→s.size-r.at'≤f→¬ (0<r.opn∧nextB s r.at'=41)→toEnd s tk true r=if (loopR s tk f r).2 then ((loopR s tk f r).1,decide ((loopR s tk f r).1.opn=0)) else ((loopR s tk f r).1,false)
 | 0,r,hr,hf,hc=>by
  rw [loopR,if_pos rfl]
  exact end_end hc (by omega)
 | f+1,r,hr,hf,hc=>by
  by_cases hlt:r.at'<s.size
  ·by_cases hs:signI (nextB s r.at')<0
   ·have e:signR s tk r=(r,false):=by rw [signR,if_pos hs]
    rw [loop_sgn hlt (by rw [e]),e,if_neg (fun e=>Bool.noConfusion e)]
    exact end_bad hc hlt hs
   ·have e:signR s tk r=(wordR s tk 1 r,true):=by rw [signR,if_neg hs]
    have h1:(wordR s tk 1 r).at'≤s.size:=hlt
    rw [end_sign hc hlt hs]
    rcases end_operand (tk:=tk) h1 with ⟨g1,g2,g3⟩ | ⟨g1,g2⟩
    ·rw [loop_on hlt (by rw [e]) (by rw [e];exact g1),e,g2]
     have hat:=operand_at (s:=s) (tk:=tk) (wordR s tk 1 r)
     have hw:(wordR s tk 1 r).at'=r.at'+1:=rfl
     exact end_loop f _ (operand_in _ h1) (by omega) g3
    ·rw [loop_opd hlt (by rw [e]) (by rw [e];exact g1),e,if_neg (fun e=>Bool.noConfusion e)]
     exact g2
  ·rw [loop_end hlt,if_pos rfl]
   exact end_end hc hlt
theorem all_end_eq (hr:r.at'≤s.size):allR s tk r=toEnd s tk false r:=by
 rcases end_operand (tk:=tk) hr with ⟨g1,g2,g3⟩ | ⟨g1,g2⟩
 ·rw [g2,end_loop s.size _ (operand_in _ hr) (by omega) g3]
  unfold allR
  rw [if_pos g1]
 ·rw [g2,all_no g1]
end
theorem leadTo_exact {q:Int→Bool} {t:ByteArray} {m:Nat} (h1:∀ i,i<m→q (byteN t i)=true) (h2:m=t.size∨q (byteN t m)=false):∀ (f i:Nat),i≤m→i+f=t.size→leadTo q t f i=m
 | 0,i,hi,hf=>by
  rcases h2 with h2 | h2
  ·show i=m;omega
  ·by_cases e:i=m
   ·exact e
   ·have:=h1 i (by omega)
    show i=m
    exfalso
    have hz:byteN t i=0:=by
     unfold byteN
     have e2:t.size=t.data.toList.length:=Array.length_toList.symm
     rw [List.getD,List.getElem?_eq_none (by omega)]
     rfl
    have hz2:byteN t m=0:=by
     unfold byteN
     have e2:t.size=t.data.toList.length:=Array.length_toList.symm
     rw [List.getD,List.getElem?_eq_none (by omega)]
     rfl
    rw [hz] at this
    rw [hz2,this] at h2
    cases h2
 | f+1,i,hi,hf=>by
  by_cases e:i=m
  ·rcases h2 with h2 | h2
   ·omega
   ·rw [leadTo,e,if_neg (by rw [h2];decide)]
  ·rw [leadTo,if_pos (h1 i (by omega))]
   exact leadTo_exact h1 h2 f (i+1) (by omega) (by omega)
def bytesOf (ts:List ByteArray):List UInt8:=ts.flatMap fun t=>t.data.toList
def txtL (t:Tre):List UInt8:=bytesOf (tokT t)
theorem bytes_app (a b:List ByteArray):bytesOf (a ++ b)=bytesOf a ++ bytesOf b:=by simp [bytesOf]
theorem bytes_one (a:ByteArray):bytesOf [a]=a.data.toList:=by simp [bytesOf]
def treT (t:Tre):ByteArray:=⟨(txtL t).toArray⟩
end Go.Proofs.YtfldgghobddgkaaGreatDoor
