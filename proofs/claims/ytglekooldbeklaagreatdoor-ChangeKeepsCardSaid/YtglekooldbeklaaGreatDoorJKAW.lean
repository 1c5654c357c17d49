/-
  What Print of package formula answers, in whatever memory: of any nodes their text, node by node.
-/
import Derived.Lib.ItoaLen
import Derived.Lib.AppendIntMem
import Derived.Lib.OwnBridge
import Derived.Shelf.Slices.In.SortNone
import Derived.Test.YtglekooldbeklaaGreatDoorShelfG
import Derived.Laws.Cover1
import Derived.Test.YtglekooldbeklaaGreatDoorJKAV
namespace Go.Proofs.YtglekooldbeklaaGreatDoor
open Go.ChangeShapes Go.WideShapes Go.ChangeAt Go.RowKit
set_option maxRecDepth 20000
def noT:ByteArray:=⟨#[]⟩
def sgnT (op:Int):ByteArray:=if op=3 then ⟨#[43]⟩ else if op=4 then ⟨#[45]⟩ else if op=5 then ⟨#[42]⟩ else ⟨#[47]⟩
def txt (l:List Nd) (T:List ByteArray) (x:Nd):ByteArray :=
 if x.op=1 then ⟨(Lib.itoa x.n).toArray⟩ else if x.op=2 then x.name
 else brk (T.getD x.left.toNat noT) (decide (bindN (l.getD x.left.toNat noN).op<bindN x.op)) ++ sgnT x.op ++ brk (T.getD x.right.toNat noT) (decide (bindN (l.getD x.right.toNat noN).op≤bindN x.op))
def textsTo (l:List Nd):Nat→List ByteArray
 | 0=>List.replicate l.length noT
 | k+1=>(textsTo l k).set k (txt l (textsTo l k) (l.getD k noN))
def printT (l:List Nd):ByteArray:=if formErr l=0 then (textsTo l l.length).getD (l.length-1) noT else noT
theorem texts_len (l:List Nd):∀ k,(textsTo l k).length=l.length
 | 0=>by simp [textsTo]
 | k+1=>by rw [textsTo,List.length_set,texts_len l k]
theorem brk_size (t:ByteArray) (b:Bool):(brk t b).size≤t.size+2:=by
 unfold brk
 split
 ·rw [ByteArray.size_append,ByteArray.size_append]
  show 1+t.size+1≤_
  omega
 ·omega
theorem sgn_size (op:Int):(sgnT op).size=1:=by
 unfold sgnT
 split
 ·rfl
 ·split
  ·rfl
  ·split <;> rfl
theorem texts_size {l:List Nd} (hg:∀ j,j<l.length→ndErr (l.getD j noN) j=0):∀ k,k≤l.length→∀ j,((textsTo l k).getD j noT).size+5≤100*2 ^ k
 | 0,_,j=>by
  rw [textsTo,List.getD_eq_getElem?_getD,List.getElem?_replicate]
  split
  ·show 0+5≤100*1;omega
  ·show 0+5≤100*1;omega
 | k+1,hk,j=>by
  have ih:=texts_size hg k (by omega)
  have h0:=ih 0
  have hp:100*2 ^ (k+1)=2*(100*2 ^ k):=by rw [Nat.pow_succ];omega
  have hone:1≤2 ^ k:=Nat.one_le_two_pow
  rw [textsTo,List.getD_eq_getElem?_getD,List.getElem?_set]
  by_cases e:k=j
  ·subst e
   rw [if_pos rfl,if_pos (by rw [texts_len];omega)]
   simp only [Option.getD_some]
   have hgk:=hg k (by omega)
   unfold txt
   split
   ·rename_i h1
    have hn:0≤(l.getD k noN).n∧(l.getD k noN).n≤1000000:=by
     unfold ndErr at hgk
     rw [if_neg (by omega),if_pos h1] at hgk
     split at hgk
     ·cases hgk
     ·omega
    have:=Lib.itoa_length_le (l.getD k noN).n (by omega) (by omega)
    have hs:(ByteArray.mk (Lib.itoa (l.getD k noN).n).toArray).size=(Lib.itoa (l.getD k noN).n).length:=by simp [ByteArray.size]
    omega
   ·split
    ·rename_i h1 h2
     have hn:nameErr (l.getD k noN).name=0:=by
      unfold ndErr at hgk
      rw [if_neg (by omega),if_neg h1,if_pos h2] at hgk
      split at hgk
      ·cases hgk
      ·rename_i h;simpa using h
     have:(l.getD k noN).name.size≤8:=by
      unfold nameErr at hn
      split at hn
      ·cases hn
      ·omega
     omega
    ·have a1:=brk_size ((textsTo l k).getD (l.getD k noN).left.toNat noT) (decide (bindN (l.getD (l.getD k noN).left.toNat noN).op<bindN (l.getD k noN).op))
     have a2:=brk_size ((textsTo l k).getD (l.getD k noN).right.toNat noT) (decide (bindN (l.getD (l.getD k noN).right.toNat noN).op≤bindN (l.getD k noN).op))
     have a3:=ih (l.getD k noN).left.toNat
     have a4:=ih (l.getD k noN).right.toNat
     have a5:=sgn_size (l.getD k noN).op
     rw [ByteArray.size_append,ByteArray.size_append]
     omega
  ·rw [if_neg e,←List.getD_eq_getElem?_getD]
   have:=ih j
   omega
theorem bindsS (op:Int) (w:World):Calls Tryz.prog 141 #[.int .i64 op] w fun e w'=>e=.returned (.int .i64 (bindN op))∧w'=w:=by
 unfold bindN
 by_cases h3:op=3
 ·subst h3
  go_enter Tryz.func141,Tryz.ntmps141
  go_wp2
  go_ret
  exact ⟨by simp,rfl⟩
 by_cases h4:op=4
 ·subst h4
  go_enter Tryz.func141,Tryz.ntmps141
  go_wp2
  go_ret
  exact ⟨by simp,rfl⟩
 by_cases h5:op=5
 ·subst h5
  go_enter Tryz.func141,Tryz.ntmps141
  go_wp2
  go_ret
  exact ⟨by simp,rfl⟩
 by_cases h6:op=6
 ·subst h6
  go_enter Tryz.func141,Tryz.ntmps141
  go_wp2
  go_ret
  exact ⟨by simp,rfl⟩
 rw [if_neg (by omega),if_neg (by omega)]
 go_enter Tryz.func141,Tryz.ntmps141
 go_wp2
 go_ret
 exact ⟨rfl,rfl⟩
theorem brkS (t:ByteArray) (b:Bool) (ht:t.size≤4611686018427387904) (w:World):Calls Tryz.prog 140 #[.string t,.bool b] w fun e w'=>e=.returned (.string (brk t b))∧w'=w:=by
 have h1 : ¬ 9223372036854775807<1+t.size:=by omega
 have h2 : ¬ 9223372036854775807<1+t.size+1:=by omega
 cases b
 ·go_enter Tryz.func140,Tryz.ntmps140
  go_wp2
  go_ret
  exact ⟨rfl,rfl⟩
 ·go_enter Tryz.func140,Tryz.ntmps140
  go_wp2
  go_ret
  exact ⟨rfl,rfl⟩
def StrB (w:World) (g:Nat) (L:List ByteArray):Prop:=w.heap[g]?=some (.cells (L.map Value.string).toArray 9 (0,0))
section
variable {w w':World} {g:Nat} {L:List ByteArray}
theorem StrB.lt (h:StrB w g L):g<w.heap.size:=(Array.getElem?_eq_some_iff.1 h).1
theorem StrB.cell (h:StrB w g L) {j:Nat} (hj:j<L.length):w.cell? ⟨g,j,none⟩=some (.string (L.getD j noT)):=by
 unfold StrB at h
 simp [World.cell?,h,List.getD,List.getElem?_eq_getElem hj]
theorem StrB.frozen (h:StrB w g L) (j:Nat):w.frozen? ⟨g,j,none⟩=false:=by unfold StrB at h;simp [World.frozen?,h]
theorem StrB.later (h:StrB w g L) (hB:Below w.heap.size w w'):StrB w' g L:=(hB.block g h.lt).trans h
theorem StrB.set (h:StrB w g L) (j:Nat) (x:ByteArray):StrB (w.setCell ⟨g,j,none⟩ (.string x)) g (L.set j x):=by
 unfold StrB at *
 rw [setCell_eq_setRow w g j _ _ (0,0) _ h,setRow_heap w g _ _ _ _ h,List.setIfInBounds_toArray,List.map_set]
theorem StrB.made (w:World) (n:Nat):StrB (w.alloc (.cells (madeCells #[.string ⟨#[]⟩] n) 9)) w.heap.size (List.replicate n noT):=by
 unfold StrB
 rw [heap_alloc_new]
 have:madeCells #[.string ⟨#[]⟩] n=((List.replicate n noT).map Value.string).toArray:=by
  apply Array.ext
  ·simp [madeCells]
  ·intro i h1 h2
   simp [madeCells,Nat.mod_one,noT]
 rw [this]
end
theorem Tryz.infoStrF:(Tryz.prog.info? 9).map (fun i=>(i.zero,i.size,i.bytes))=some (some (.string ⟨#[]⟩),1,16):=by kernel_rfl
def TabE (w : World) : Prop := Lib.TabIs Tryz.prog w "internal/strconv.uint64pow10" .u64 Lib.pow10Tab
theorem TabE.later {w w':World} (h:TabE w) (hb:Below w.heap.size w w'):TabE w':=Lib.tabBelow_of_tabIs h w' hb
theorem itoaF (n:Int) (w:World) (h0 : -9223372036854775808≤n) (h1:n≤9223372036854775807) (hE:TabE w):Calls Tryz.prog 139 #[.int .i64 n] w fun e w'=>e=.returned (.string ⟨(Lib.itoa n).toArray⟩)∧Below w.heap.size w w' :=
 (Any.strconv_Itoa Tryz.laysM171 n h0 h1 w hE).mono fun e w' ⟨he,k,os,hw⟩=>⟨he,by rw [hw];exact Lib.below_grow _ _ (Nat.le_refl _) _ _⟩
theorem texts_step {l:List Nd} {k:Nat} {x:Nd} {t:ByteArray} (hx:l.getD k noN=x) (ht:txt l (textsTo l k) x=t):textsTo l (k+1)=(textsTo l k).set k t:=by rw [textsTo,hx,ht]
theorem txt_num {l:List Nd} {T:List ByteArray} {x:Nd} (h:x.op=1):txt l T x=⟨(Lib.itoa x.n).toArray⟩:=by rw [txt,if_pos h]
theorem txt_ref {l:List Nd} {T:List ByteArray} {x:Nd} (h:x.op=2):txt l T x=x.name:=by rw [txt,if_neg (by omega),if_pos h]
theorem txt_op {l:List Nd} {T:List ByteArray} {x:Nd} {a c:Nat} (h:2<x.op) (ha:x.left=a) (hc:x.right=c):txt l T x=brk (T.getD a noT) (decide (bindN (l.getD a noN).op<bindN x.op)) ++ sgnT x.op ++ brk (T.getD c noT) (decide (bindN (l.getD c noN).op≤bindN x.op)):=by
 rw [txt,if_neg (by omega),if_neg (by omega),ha,hc]
 rfl
theorem enc0:sgnT 3=Utf8.encode (((ByteArray.mk #[43,45,42,47])[0]'(by decide)).toNat:Int):=by kernel_rfl
theorem encs0:(Utf8.encode (((ByteArray.mk #[43,45,42,47])[0]'(by decide)).toNat:Int)).size=1:=by rw [←enc0];rfl
theorem enc1:sgnT 4=Utf8.encode (((ByteArray.mk #[43,45,42,47])[1]'(by decide)).toNat:Int):=by kernel_rfl
theorem encs1:(Utf8.encode (((ByteArray.mk #[43,45,42,47])[1]'(by decide)).toNat:Int)).size=1:=by rw [←enc1];rfl
theorem enc2:sgnT 5=Utf8.encode (((ByteArray.mk #[43,45,42,47])[2]'(by decide)).toNat:Int):=by kernel_rfl
theorem encs2:(Utf8.encode (((ByteArray.mk #[43,45,42,47])[2]'(by decide)).toNat:Int)).size=1:=by rw [←enc2];rfl
theorem enc3:sgnT 6=Utf8.encode (((ByteArray.mk #[43,45,42,47])[3]'(by decide)).toNat:Int):=by kernel_rfl
theorem encs3:(Utf8.encode (((ByteArray.mk #[43,45,42,47])[3]'(by decide)).toNat:Int)).size=1:=by rw [←enc3];rfl
set_option maxRecDepth 100000 in
set_option maxHeartbeats 4000000 in
theorem fprint_any (A:Option Addr) (cap:Nat) (l:List Nd) (w:World) (hE:TabE w) (hN:NdsV w A cap l):Calls Tryz.prog 103 #[.slice A l.length cap] w fun e w'=>e=.returned (.tuple #[.string (printT l),errV (formErr l)])∧Below w.heap.size w w':=by
 have hck:=fchk_any A cap l w hN
 by_cases h0:formErr l=0
 case neg =>
  have hP:printT l=⟨#[]⟩:=by unfold printT;rw [if_neg h0];rfl
  rw [hP]
  rw [errV_some h0] at hck ⊢
  clear h0 hP
  go_enter Tryz.func103,Tryz.ntmps103
  go_wp2_with fail
  refine hck.mono ?_
  rintro e w1 ⟨rfl,hb1⟩
  go_wp2_with fail
  go_returns
  exact ⟨rfl,hb1⟩
 obtain ⟨hl0,hl30,hg,-⟩:=form_right h0
 have hP:printT l=(textsTo l l.length).getD (l.length-1) noT:=by unfold printT;rw [if_pos h0]
 rw [h0,errV_zero] at hck ⊢
 rw [hP]
 obtain ⟨-,-,h1 | ⟨b,o,rfl,hN⟩⟩:=hN
 ·rw [h1] at hl0;simp at hl0
 have HG:Hid (∀ j,j<l.length→ndErr (l.getD j noN) j=0):=hg
 have HN:Hid (NdsAt w b o l):=hN
 have HE:Hid (TabE w):=hE
 have hmk:=run_make_row' (P:=Tryz.prog) 110 9 (.string ⟨#[]⟩) 16 Tryz.underlying110 Tryz.infoStrF rfl .i64 .i64 l.length (by omega) (by omega)
 obtain ⟨n,hn⟩:∃ n,l.length=n:=⟨_,rfl⟩
 have HL:Hid (l.length=n):=hn
 rw [hn] at hmk hck ⊢
 have hni:(n:Int)≤30:=by omega
 have hn0:0<(n:Int):=by omega
 clear h0 hP hg hN hE
 go_enter Tryz.func103,Tryz.ntmps103
 go_wp2_with fail
 refine hck.mono ?_
 rintro e w1 ⟨rfl,hb1⟩
 have HB1:Hid (Below w.heap.size w w1):=hb1
 clear hb1 hck
 go_wp2_with fail
 go_loopg [20] n (fun g s20 wr => ∃ (k:Nat),k≤n∧g=n-k∧s20=.int .i64 k∧StrB wr w1.heap.size (textsTo l k)∧Below w1.heap.size w1 wr)
 case atStart=>exact ⟨0,Nat.zero_le _,rfl,rfl,by rw [textsTo,HL.out];exact StrB.made w1 n,by go_grown⟩
 case round =>
  obtain ⟨k,hk,rfl,rfl,hS,hBw⟩:=hrel
  have HS:Hid (StrB wr w1.heap.size (textsTo l k)):=hS
  have HW:Hid (Below w1.heap.size w1 wr):=hBw
  clear hS hBw
  by_cases hlt:k<n
  ·have hki:(k:Int)<(n:Int):=by omega
   have HBw:Hid (Below w.heap.size w wr):=onB HB1.out HW.out
   obtain ⟨x0,x1,x2,x3,x4⟩:=(HN.out.later HBw.out).nd (k:=k) (by omega)
   have hbl:b<w.heap.size:=HN.out.1
   have hsz:=HBw.out.size
   have hsz1:=HB1.out.size
   have hgl:=HS.out.lt
   have hgk:=HG.out k (by omega)
   obtain ⟨x,hx⟩:∃ x,l.getD k noN=x:=⟨_,rfl⟩
   have HX:Hid (l.getD k noN=x):=hx
   rw [hx] at x0 x1 x2 x3 x4 hgk
   clear hx
   have hlen:(textsTo l k).length=n:=by rw [texts_len];exact hn
   by_cases h1:x.op=1
   ·have HT:=hid_of (texts_step HX.out (txt_num (l:=l) (T:=textsTo l k) h1))
    have hnr:0≤x.n∧x.n≤1000000:=by
     unfold ndErr at hgk
     rw [if_neg (by omega),if_pos h1] at hgk
     split at hgk
     ·cases hgk
     ·omega
    have hIt:=fun w' hE=>itoaF x.n w' (by omega) (by omega) hE
    rw [h1] at x0
    clear hgk
    go_wp2_with fail
    refine (hIt _ (HE.out.later (onB HBw.out (by go_grown)))).mono ?_
    rintro e w2 ⟨rfl,hb2⟩
    have HB2:Hid (Below wr.heap.size wr w2):=onB (by go_grown) hb2
    have y1:=(HS.out.later HB2.out).cell (j:=k) (by omega)
    have y2:=(HS.out.later HB2.out).frozen k
    clear hb2 hIt
    go_wp2_with fail
    go_roundg (n-(k+1))
    case measure=>omega
    case rel=>exact ⟨k+1,by omega,rfl,by go_num,by rw [HT.out];exact (HS.out.later HB2.out).set k _,(onB HW.out HB2.out).setCell (Nat.le_refl _) _⟩
   by_cases h2:x.op=2
   ·have HT:=hid_of (texts_step HX.out (txt_ref (l:=l) (T:=textsTo l k) h2))
    have hnm:nameErr x.name=0:=by
     unfold ndErr at hgk
     rw [if_neg (by omega),if_neg h1,if_pos h2] at hgk
     split at hgk
     ·cases hgk
     ·rename_i h;simpa using h
    have hns:x.name.size≤8:=by
     unfold nameErr at hnm
     split at hnm
     ·cases hnm
     ·omega
    have hcl:=fun w=>sclone_any x.name w (by omega)
    rw [h2] at x0
    clear hgk hnm
    go_wp2_with fail
    refine (hcl _).mono ?_
    rintro e w2 ⟨rfl,hb2⟩
    have HB2:Hid (Below wr.heap.size wr w2):=onB (by go_grown) hb2
    have y1:=(HS.out.later HB2.out).cell (j:=k) (by omega)
    have y2:=(HS.out.later HB2.out).frozen k
    clear hb2 hcl
    go_wp2_with fail
    go_roundg (n-(k+1))
    case measure=>omega
    case rel=>exact ⟨k+1,by omega,rfl,by go_num,by rw [HT.out];exact (HS.out.later HB2.out).set k _,(onB HW.out HB2.out).setCell (Nat.le_refl _) _⟩
   ·have hop:3≤x.op∧x.op≤6:=by
     unfold ndErr at hgk
     split at hgk
     ·cases hgk
     ·omega
    obtain ⟨l0,l1,r0,r1⟩:=nd_sides hgk (by omega)
    obtain ⟨a,ha⟩:∃ a:Nat,x.left=a:=⟨x.left.toNat,by omega⟩
    obtain ⟨c,hc⟩:∃ c:Nat,x.right=c:=⟨x.right.toNat,by omega⟩
    have hal:a<n:=by omega
    have hcl:c<n:=by omega
    have HT:=hid_of (texts_step HX.out (txt_op (l:=l) (T:=textsTo l k) (a:=a) (c:=c) (by omega) ha hc))
    obtain ⟨W,hW⟩:∃ W,wr.alloc (.cells #[.int .i64 x.op,.int .i64 x.n,.string x.name,.int .i64 x.left,.int .i64 x.right] 178)=W:=⟨_,rfl⟩
    have hBW:Below wr.heap.size wr W:=by rw [←hW];exact (Below.refl _ _).alloc (Nat.le_refl _) _
    have HBW:Hid (Below wr.heap.size wr W):=hBW
    have hbox:W.heap[wr.heap.size]?=some (.cells #[.int .i64 x.op,.int .i64 x.n,.string x.name,.int .i64 x.left,.int .i64 x.right] 178 (0,0)):=by rw [←hW];exact heap_alloc_new _ _
    have z0:W.cell? ⟨wr.heap.size,0,none⟩=some (.int .i64 x.op):=by simp [World.cell?,hbox]
    have z3:W.cell? ⟨wr.heap.size,3,none⟩=some (.int .i64 a):=by simp [World.cell?,hbox,ha]
    have z4:W.cell? ⟨wr.heap.size,4,none⟩=some (.int .i64 c):=by simp [World.cell?,hbox,hc]
    have HSW:Hid (StrB W w1.heap.size (textsTo l k)):=HS.out.later hBW
    have ta:=HSW.out.cell (j:=a) (by omega)
    have tc:=HSW.out.cell (j:=c) (by omega)
    have hHN:=HN.out.later (onB HBw.out hBW)
    obtain ⟨q1,-⟩:=hHN.nd (k:=a) (by omega)
    obtain ⟨q2,-⟩:=hHN.nd (k:=c) (by omega)
    have sa:=texts_size HG.out k (by omega) a
    have sc:=texts_size HG.out k (by omega) c
    have h2k:100*2 ^ k≤100*2 ^ 30:=Nat.mul_le_mul_left _ (Nat.pow_le_pow_right (by omega) (by omega))
    have h230:(100*2 ^ 30:Nat)=107374182400:=by decide
    obtain ⟨tA,htA⟩:∃ t,(textsTo l k).getD a noT=t:=⟨_,rfl⟩
    obtain ⟨tC,htC⟩:∃ t,(textsTo l k).getD c noT=t:=⟨_,rfl⟩
    obtain ⟨oA,hoA⟩:∃ t,(l.getD a noN).op=t:=⟨_,rfl⟩
    obtain ⟨oC,hoC⟩:∃ t,(l.getD c noN).op=t:=⟨_,rfl⟩
    rw [htA] at ta sa HT
    rw [htC] at tc sc HT
    rw [hoA] at q1 HT
    rw [hoC] at q2 HT
    have hbA:=fun b w=>brkS tA b (by omega) w
    have hbC:=fun b w=>brkS tC b (by omega) w
    have uA:=brk_size tA (decide (bindN oA<bindN x.op))
    have uC:=brk_size tC (decide (bindN oC≤bindN x.op))
    have hai:(a:Int)<(n:Int):=by omega
    have hci:(c:Int)<(n:Int):=by omega
    have y1:=HSW.out.cell (j:=k) (by omega)
    have y2:=HSW.out.frozen k
    have hgW:w1.heap.size<W.heap.size:=HSW.out.lt
    have hbW:b<W.heap.size:=hHN.1
    have hzW:wr.heap.size<W.heap.size:=(Array.getElem?_eq_some_iff.1 hbox).1
    have sA':tA.size≤200000000000:=by omega
    have sC':tC.size≤200000000000:=by omega
    obtain ⟨ov,hov⟩:∃ ov,x.op=ov:=⟨_,rfl⟩
    rw [hov] at hW x0 z0 HT uA uC hop h1 h2
    rw [ha,hc] at hW
    have hs1 : ¬ 9223372036854775807<(brk tA (decide (bindN oA<bindN ov))).size+1:=by omega
    have hs2 : ¬ 9223372036854775807<(brk tA (decide (bindN oA<bindN ov))).size+1+(brk tC (decide (bindN oC≤bindN ov))).size:=by omega
    have e1:(ov == 1)=false:=by simpa using h1
    have e2:(ov == 2)=false:=by simpa using h2
    clear hbox hHN htA htC hoA hoC l0 l1 r0 r1 hgk hBW h2k h230 sa sc hov h1 h2
    go_wp2_with fail
    go_quiet (first
     | (go_at_call 141;exact Calls.quiet_of_same (bindsS _ _))
     | (go_at_call 140;exact Calls.quiet_of_same (hbA _ _)))
    obtain ⟨W1,hW1⟩:∃ W1,W.drewN nq=W1:=⟨_,rfl⟩
    have hb1:Below W.heap.size W W1:=by rw [←hW1];exact below_drewN (Below.refl _ _) _
    have z0':=(hb1.cell (p:=⟨wr.heap.size,0,none⟩) hzW).trans z0
    have z4':=(hb1.cell (p:=⟨wr.heap.size,4,none⟩) hzW).trans z4
    have tc':=(hb1.cell (p:=⟨w1.heap.size,c,none⟩) hgW).trans tc
    have q2':=(hb1.cell (p:=⟨b,o+c*5,none⟩) hbW).trans q2
    have HS1:Hid (StrB W1 w1.heap.size (textsTo l k)):=HSW.out.later hb1
    have HB1w:Hid (Below w1.heap.size w1 W1):=onB HW.out (onB HBW.out hb1)
    have hzW1:wr.heap.size<W1.heap.size:=Nat.lt_of_lt_of_le hzW hb1.size
    rw [hW1]
    clear hb1 hW1 z0 z3 z4 ta tc q1 q2 y1 y2 hW
    go_wp2_with fail
    go_quiet (first
     | (go_at_call 141;exact Calls.quiet_of_same (bindsS _ _))
     | (go_at_call 140;exact Calls.quiet_of_same (hbC _ _)))
    obtain ⟨W2,hW2⟩:∃ W2,W1.drewN nq=W2:=⟨_,rfl⟩
    have hb2:Below W1.heap.size W1 W2:=by rw [←hW2];exact below_drewN (Below.refl _ _) _
    have v0:=(hb2.cell (p:=⟨wr.heap.size,0,none⟩) hzW1).trans z0'
    have HSq:Hid (StrB W2 w1.heap.size (textsTo l k)):=HS1.out.later hb2
    have HBq:Hid (Below w1.heap.size w1 W2):=onB HB1w.out hb2
    have y1:=HSq.out.cell (j:=k) (by omega)
    have y2:=HSq.out.frozen k
    rw [hW2]
    clear hb2 hW2 z0' z4' tc' q2' hbA hbC
    have hovc:ov=3∨ov=4∨ov=5∨ov=6:=by omega
    clear hs1 hs2
    rcases hovc with rfl | rfl | rfl | rfl
    all_goals
     have es0:=encs0
     have es1:=encs1
     have es2:=encs2
     have es3:=encs3
     go_wp2_with fail
     go_roundg (n-(k+1))
     case measure=>omega
     case rel=>exact ⟨k+1,by omega,rfl,by go_num,by rw [HT.out];first | (rw [enc0];exact HSq.out.set k _) | (rw [enc1];exact HSq.out.set k _) | (rw [enc2];exact HSq.out.set k _) | (rw [enc3];exact HSq.out.set k _),HBq.out.setCell (Nat.le_refl _) _⟩
  ·have hke:k=n:=by omega
   subst hke
   have y1:=HS.out.cell (j:=k-1) (by rw [texts_len,HL.out];omega)
   have hsub:(k:Int)-1=((k-1:Nat):Int):=by omega
   obtain ⟨t,ht⟩:∃ t,(textsTo l k).getD (k-1) noT=t:=⟨_,rfl⟩
   have HT:Hid ((textsTo l k).getD (k-1) noT=t):=ht
   rw [ht] at y1
   obtain ⟨m,hm⟩:∃ m,k-1=m:=⟨_,rfl⟩
   rw [hm] at y1 hsub
   have hmk:(m:Int)<(k:Int):=by omega
   clear ht
   go_wp2_with fail
   go_returns
   exact ⟨by rw [HT.out];rfl,onB HB1.out HW.out⟩
theorem take_snoc (l:List Nd) {k:Nat} (hk:k<l.length):l.take (k+1)=l.take k ++ [l.getD k noN]:=by
 rw [List.take_add_one,List.getElem?_eq_getElem hk]
 simp [List.getD,List.getElem?_eq_getElem hk]
end Go.Proofs.YtglekooldbeklaaGreatDoor
namespace Go.Proofs.YtglekooldbeklaaGreatDoor
open Go.ChangeShapes Go.WideShapes Go.ChangeAt Go.RowKit
open Go.Sort (putRow Holds grow holds_putRow)
set_option maxRecDepth 20000
def nmsTo (l:List Nd) (k:Nat):List (List UInt8):=((l.take k).filter fun x=>decide (x.op=2)).map fun x=>x.name.data.toList
def refsP (l:List Nd):List (List UInt8):=if formErr l=0 then Lib.compact ((nmsTo l l.length).mergeSort fun x y=>decide (x≤y)) else []
theorem nms_hit {l:List Nd} {k:Nat} {x:Nd} (hk:k<l.length) (hx:l.getD k noN=x) (h:x.op=2):nmsTo l (k+1)=nmsTo l k ++ [x.name.data.toList]:=by
 unfold nmsTo
 rw [take_snoc l hk,hx,List.filter_append,List.map_append]
 simp [h]
theorem nms_miss {l:List Nd} {k:Nat} {x:Nd} (hk:k<l.length) (hx:l.getD k noN=x) (h:x.op≠2):nmsTo l (k+1)=nmsTo l k:=by
 unfold nmsTo
 rw [take_snoc l hk,hx,List.filter_append,List.map_append]
 simp [h]
theorem nms_len (l:List Nd) (k:Nat):(nmsTo l k).length≤k:=by
 unfold nmsTo
 rw [List.length_map]
 exact Nat.le_trans (List.length_filter_le _ _) (by rw [List.length_take];omega)
def StrsV (w:World) (A:Option Addr) (c:Nat) (L:List (List UInt8)):Prop:=L.length≤c∧c≤9223372036854775807∧(L=[]∨∃ b o,A=some ⟨b,o,none⟩∧b<w.heap.size∧∀ j,j<L.length→w.cell? ⟨b,o+j,none⟩=some (.string ⟨(L.getD j []).toArray⟩))
theorem StrsV.nil (w:World) (A:Option Addr) (c:Nat) (h:c≤9223372036854775807):StrsV w A c []:=⟨Nat.zero_le _,h,Or.inl rfl⟩
theorem StrsV.later {w w':World} {A:Option Addr} {c:Nat} {L:List (List UInt8)} (h:StrsV w A c L) (hB:Below w.heap.size w w'):StrsV w' A c L:=by
 obtain ⟨h1,h2,h3 | ⟨b,o,h3,h4,h5⟩⟩:=h
 ·exact ⟨h1,h2,Or.inl h3⟩
 ·exact ⟨h1,h2,Or.inr ⟨b,o,h3,Nat.lt_of_lt_of_le h4 hB.size,fun j hj=>(hB.cell (p:=⟨b,o+j,none⟩) h4).trans (h5 j hj)⟩⟩
theorem put_off {w:World} {g k:Nat} {d:Array (List UInt8)} (h:k≠g):(putRow encStr w g 0 d).heap[k]?=w.heap[k]?:=by
 unfold putRow Sort.mapBlock
 simp only [Array.getElem?_modify]
 rw [if_neg (fun e=>h e.symm)]
theorem sorted_below {w0 w:World} {g n:Nat} {d:Array (List UInt8)} {os:Array Obj} (h:Below w0.heap.size w0 w) (hg:w0.heap.size≤g):Below w0.heap.size w0 (grow (putRow encStr (Sort.ahead w n) g 0 d) os):=by
 refine ⟨h.os,h.tape,h.output,by have:=h.size;simp;omega,fun k hk=>?_⟩
 have hs:=h.size
 rw [Sort.heap_grow_old _ _ (by simp;omega),put_off (by omega)]
 exact h.block k hk
theorem packed_below {w0 w:World} {g n:Nat} {d:Array (List UInt8)} (h:Below w0.heap.size w0 w) (hg:w0.heap.size≤g):Below w0.heap.size w0 (putRow encStr (Sort.ahead w n) g 0 d):=by
 refine ⟨h.os,h.tape,h.output,by have:=h.size;simp;omega,fun k hk=>?_⟩
 rw [put_off (by omega)]
 exact h.block k hk
theorem compact_len (zs:List (List UInt8)):(Lib.compact zs).length≤zs.length:=by
 unfold Lib.compact Lib.compactUpTo
 rw [List.length_map]
 exact Nat.le_trans (List.length_filter_le _ _) (by simp)
theorem packed_strs {w:World} {g n cap:Nat} {zs:List (List UInt8)} (hH:Holds encStr w g 0 zs.toArray) (hc:zs.length≤cap) (hm:cap≤maxLen) (hg:g<w.heap.size) :
  StrsV (putRow encStr (Sort.ahead w n) g 0 (Lib.compact zs ++ List.replicate (zs.length-(Lib.compact zs).length) []).toArray) (some ⟨g,0,none⟩) cap (Lib.compact zs):=by
 have hl:=compact_len zs
 refine ⟨by omega,by unfold maxLen at hm;omega,Or.inr ⟨g,0,rfl,by simpa using hg,fun j hj=>?_⟩⟩
 have hs:(Lib.compact zs ++ List.replicate (zs.length-(Lib.compact zs).length) []).toArray.size=zs.toArray.size:=by simp;omega
 have h1:=(holds_putRow encStr (Sort.ahead w n) g 0 zs.toArray _ hH hs j (by rw [hs];simp;omega)).1
 rw [h1]
 have e:(Lib.compact zs ++ List.replicate (zs.length-(Lib.compact zs).length) ([]:List UInt8)).toArray[j]! = (Lib.compact zs).getD j []:=by
  rw [getElem!_pos _ j (by rw [hs];simp;omega)]
  simp [List.getD,List.getElem?_eq_getElem hj,List.getElem_append_left hj]
 rw [e]
end Go.Proofs.YtglekooldbeklaaGreatDoor
namespace Go.Proofs.YtglekooldbeklaaGreatDoor
open Go.ChangeShapes Go.WideShapes Go.ChangeAt Go.RowKit
set_option maxRecDepth 20000
def NmV (w:World) (A:Option Addr) (c:Nat) (N:List ByteArray):Prop:=N.length≤c∧N.length<4611686018427387904∧c≤9223372036854775807∧(N=[]∨∃ b o,A=some ⟨b,o,none⟩∧b<w.heap.size∧∀ j,j<N.length→w.cell? ⟨b,o+j,none⟩=some (.string (N.getD j noS)))
theorem NmV.later {w w':World} {A:Option Addr} {c:Nat} {N:List ByteArray} (h:NmV w A c N) (hB:Below w.heap.size w w'):NmV w' A c N:=by
 obtain ⟨h1,h2,h3,h4 | ⟨b,o,h4,h5,h6⟩⟩:=h
 ·exact ⟨h1,h2,h3,Or.inl h4⟩
 ·exact ⟨h1,h2,h3,Or.inr ⟨b,o,h4,Nat.lt_of_lt_of_le h5 hB.size,fun j hj=>(hB.cell (p:=⟨b,o+j,none⟩) h5).trans (h6 j hj)⟩⟩
set_option maxHeartbeats 4000000 in
theorem rkcheck_any (An:Option Addr) (cn:Nat) (N:List ByteArray) (Ac:Option Addr) (cc:Nat) (C:List (Int×Int)) (w:World) (hN:NmV w An cn N) (hC:CelV w Ac cc C) :
  Calls Tryz.prog 112 #[.slice An N.length cn,.slice Ac C.length cc] w fun e w'=>e=.returned (errV (ckErr N C))∧Below w.heap.size w w':=by
 by_cases hne:C.length=N.length
 case neg =>
  have hb:((C.length:Int) != (N.length:Int))=true:=by simp;omega
  rw [ck_shape hne,errV_some (by decide)]
  clear hne hN hC
  go_enter Tryz.func112,Tryz.ntmps112
  go_wp2_with fail
  go_ret
  exact ⟨rfl,Below.refl _ _⟩
 obtain ⟨-,hN2,-,hN4⟩:=hN
 obtain ⟨-,-,hC3⟩:=hC
 obtain ⟨n,hn⟩:∃ n,N.length=n:=⟨_,rfl⟩
 have HNL:Hid (N.length=n):=hn
 have HCL:Hid (C.length=n):=hne.trans hn
 rw [hne,hn]
 rw [hn] at hN2 
 by_cases h0:n=0
 ·subst h0
  rw [ck_good (N:=N) (C:=C) hne (fun j hj=>by have:=HCL.out;omega) (fun j _ hj=>by omega),errV_zero]
  clear hN4 hC3 hne hn hN2
  go_enter Tryz.func112,Tryz.ntmps112
  go_wp2_with fail
  refine wp_loop_rounds 1 ?_
  rw [rounds_succ]
  go_wp2_with fail
  refine wp_loop_rounds 1 ?_
  rw [rounds_succ]
  go_wp2_with fail
  go_ret
  exact ⟨rfl,Below.refl _ _⟩
 obtain ⟨b,o,rfl,hCA⟩:=hC3.resolve_left (fun e=>by rw [e] at hne;simp at hne;omega)
 obtain ⟨bn,on,rfl,hNb,hNA⟩:=hN4.resolve_left (fun e=>by rw [e] at hn;simp at hn;omega)
 have HC:Hid (CelAt w b o C):=hCA
 have HN:Hid (∀ j,j<N.length→w.cell? ⟨bn,on+j,none⟩=some (.string (N.getD j noS))):=hNA
 have hni:(n:Int)<4611686018427387904:=by omega
 have hn0:0<(n:Int):=by omega
 clear hne hn hCA hNA hN2
 go_enter Tryz.func112,Tryz.ntmps112
 go_wp2_with fail
 go_loopg [17] n (fun g s17 wr => ∃ (k:Nat),k≤n∧g=n-k∧s17=.int .i64 k∧(∀ j,j<k→goodB C j=false)∧Below w.heap.size w wr)
 case atStart=>exact ⟨0,Nat.zero_le _,rfl,rfl,fun j hj=>absurd hj (Nat.not_lt_zero j),Below.refl _ _⟩
 case round =>
  obtain ⟨k,hk,rfl,rfl,hbd,hBw⟩:=hrel
  have HBd:Hid (∀ j,j<k→goodB C j=false):=hbd
  have HW:Hid (Below w.heap.size w wr):=hBw
  have hbl:b<w.heap.size:=HC.out.1
  have hsz:=hBw.size
  clear hbd hBw
  by_cases hlt:k<n
  ·have hki:(k:Int)<(n:Int):=by omega
   obtain ⟨x0,x1⟩:=(HC.out.later HW.out).2 k (by rw [HCL.out];exact hlt)
   have hck:=check_any (C.getD k noC).1 (C.getD k noC).2
   obtain ⟨kk,hkk⟩:∃ kk,(C.getD k noC).1=kk:=⟨_,rfl⟩
   obtain ⟨nn,hnn⟩:∃ nn,(C.getD k noC).2=nn:=⟨_,rfl⟩
   have HG:Hid (goodB C k = !(good kk nn)):=by show _=_;unfold goodB;rw [hkk,hnn]
   rw [hkk] at x0 hck
   rw [hnn] at x1 hck
   clear hkk hnn
   cases hg:good kk nn
   ·rw [hg] at hck
    have HF:Hid (ckErr N C=1):=ck_cell (by rw [HCL.out,HNL.out]) (i:=k) (by rw [HCL.out];exact hlt) (by rw [HG.out,hg];rfl)
    rw [if_neg (by decide)] at hck
    clear hg
    go_wp2_with fail
    refine (hck _).mono ?_
    rintro e w1 ⟨rfl,hb1⟩
    have HB1:Hid (Below w.heap.size w w1):=onB HW.out (onB (by go_grown) hb1)
    clear hb1 hck
    go_wp2_with fail
    go_ret
    exact ⟨by rw [HF.out];rfl,HB1.out⟩
   ·rw [hg,if_pos rfl] at hck
    have HGd:Hid (goodB C k=false):=by show _=_;rw [HG.out,hg];rfl
    clear hg
    go_wp2_with fail
    refine (hck _).mono ?_
    rintro e w1 ⟨rfl,hb1⟩
    have HB1:Hid (Below w.heap.size w w1):=onB HW.out (onB (by go_grown) hb1)
    clear hb1 hck
    go_wp2_with fail
    go_roundg (n-(k+1))
    case measure=>omega
    case rel=>exact ⟨k+1,by omega,rfl,by go_num,fun j hj=>by rcases Nat.lt_succ_iff_lt_or_eq.1 hj with h | h;exact HBd.out j h;rw [h];exact HGd.out,HB1.out⟩
  ·have hke:k=n:=by omega
   subst hke
   have HAll:Hid (∀ j,j<C.length→goodB C j=false):=fun j hj=>HBd.out j (by have:=HCL.out;omega)
   go_wp2_with fail
   go_loopg [8] k (fun g s8 ws => ∃ (i:Nat),i<k∧g=k-i∧s8=.int .i64 ((i:Int)+1)∧(∀ j,1≤j→j<i+1→downS N j=false)∧Below w.heap.size w ws)
   case atStart=>exact ⟨0,by omega,rfl,rfl,fun j h1 h2=>by omega,HW.out⟩
   case round =>
    obtain ⟨i,hi,rfl,rfl,hbd,hBw⟩:=hrel
    have HDn:Hid (∀ j,1≤j→j<i+1→downS N j=false):=hbd
    have HV:Hid (Below w.heap.size w wr):=hBw
    clear hbd
    by_cases hlt2:i+1<k
    ·have hki:(i:Int)+1<(k:Int):=by omega
     have c1:=(hBw.cell (p:=⟨bn,on+(i+1),none⟩) hNb).trans (HN.out (i+1) (by rw [HNL.out];exact hlt2))
     have c0:=(hBw.cell (p:=⟨bn,on+i,none⟩) hNb).trans (HN.out i (by rw [HNL.out];omega))
     obtain ⟨x,hx⟩:∃ x,N.getD (i+1) noS=x:=⟨_,rfl⟩
     obtain ⟨y,hy⟩:∃ y,N.getD i noS=y:=⟨_,rfl⟩
     have HD:Hid (downS N (i+1)=(Op.bytesLess x.toList y.toList || x.toList == y.toList)):=by show _=_;unfold downS;rw [hx,Nat.add_sub_cancel,hy]
     rw [hx] at c1
     rw [hy] at c0
     have hsub:(i:Int)+1-1=(i:Int):=by omega
     have hto:((i:Int)+1).toNat=i+1:=by omega
     clear hx hy hBw
     cases ht:(Op.bytesLess x.toList y.toList || x.toList == y.toList)
     ·have HDF:Hid (downS N (i+1)=false):=by show _=_;rw [HD.out,ht]
      clear HD
      go_wp2_with fail
      go_quiet (fail)
      have HB2:Hid (Below w.heap.size w (wr.drewN nq)):=below_drewN HV.out _
      go_wp2_with fail
      go_roundg (k-(i+1))
      case measure=>omega
      case rel=>exact ⟨i+1,hlt2,rfl,by go_num,fun j h1 hj=>by rcases Nat.lt_succ_iff_lt_or_eq.1 hj with h | h;exact HDn.out j h1 h;rw [h];exact HDF.out,HB2.out⟩
     ·have HF:Hid (ckErr N C=7):=ck_down (by rw [HCL.out,HNL.out]) HAll.out (i:=i+1) (by omega) (by rw [HNL.out];exact hlt2) (by rw [HD.out,ht])
      clear HD
      go_wp2_with fail
      go_quiet (fail)
      have HB2:Hid (Below w.heap.size w (wr.drewN nq)):=below_drewN HV.out _
      go_wp2_with fail
      go_ret
      exact ⟨by rw [HF.out];rfl,HB2.out⟩
    ·have hie:k=i+1:=by omega
     have HF:Hid (ckErr N C=0):=ck_good (by rw [HCL.out,HNL.out]) HAll.out (fun j h1 hj=>HDn.out j h1 (by have:=HNL.out;omega))
     have hki : ¬ (i:Int)+1<(k:Int):=by omega
     clear hie
     go_wp2_with fail
     go_ret
     exact ⟨by rw [HF.out];rfl,HV.out⟩
end Go.Proofs.YtglekooldbeklaaGreatDoor
