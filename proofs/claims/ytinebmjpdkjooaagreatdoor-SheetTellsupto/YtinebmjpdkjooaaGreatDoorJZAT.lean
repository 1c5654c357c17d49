/-
  What strings.Cut answers at one byte, in whatever memory; what stands behind a sign: which sign, and the formula.
-/
import Derived.Test.YtinebmjpdkjooaaGreatDoorShelfN
import Derived.Laws.Runes
import Derived.WalkMore
import Derived.Laws.RangeAny
import Derived.Lib.OthersKept
import Derived.Lib.DecodeN
import Derived.Test.YtinebmjpdkjooaaGreatDoorJZAS
namespace Go.Proofs.YtinebmjpdkjooaaGreatDoor
open Go.ChangeShapes Go.WideShapes Go.ChangeAt Go.RowKit
set_option maxRecDepth 20000
theorem sindex_one (s:ByteArray) (c:UInt8) (w:World):Calls Tryz.prog 103 #[.string s,.string ⟨#[c]⟩] w fun e w'=>e=.returned (.int .i64 (Lib.indexByte s.data.toList c))∧w'=w:=Any.stringslite_Index_one Tryz.lays219 s c w
def cutV (c:UInt8) (s:ByteArray):Value:=if Lib.indexByte s.data.toList c<0 then .tuple #[.string s,.string ⟨#[]⟩,.bool false] else .tuple #[.string (s.extract 0 (Lib.indexByte s.data.toList c).toNat),.string (s.extract ((Lib.indexByte s.data.toList c).toNat+1) s.size),.bool true]
theorem cutV_none {c:UInt8} {s:ByteArray} (h:Lib.indexByte s.data.toList c = -1):cutV c s=.tuple #[.string s,.string ⟨#[]⟩,.bool false]:=by unfold cutV;rw [if_pos (by omega)]
theorem cutV_some {c:UInt8} {s:ByteArray} {i:Nat} (h:Lib.indexByte s.data.toList c=i):cutV c s=.tuple #[.string (s.extract 0 i),.string (s.extract (i+1) s.size),.bool true]:=by unfold cutV;rw [if_neg (by omega),h];rfl
theorem index_lt {c:UInt8} {s:ByteArray} {i:Nat} (h:Lib.indexByte s.data.toList c=i):i<s.size:=by
 have:=(cut_hit h).1
 simpa using this
theorem scut1_any (s:ByteArray) (c:UInt8) (w:World) (hs:s.size≤4611686018427387904):Calls Tryz.prog 72 #[.string s,.string ⟨#[c]⟩] w fun e w'=>e=.returned (cutV c s)∧Below w.heap.size w w':=by
 have hi:=fun w=>sindex_one s c w
 have hge:=Lib.indexByte_ge s.data.toList c
 by_cases h:Lib.indexByte s.data.toList c = -1
 ·rw [cutV_none h]
  rw [h] at hi
  clear h hge
  go_enter Tryz.func72,Tryz.ntmps72
  go_wp2_with fail
  refine (hi _).mono ?_
  rintro e w1 ⟨rfl,rfl⟩
  go_wp2_with fail
  go_ret3
  exact ⟨rfl,Below.refl _ _⟩
 ·obtain ⟨i,hI⟩:∃ i:Nat,Lib.indexByte s.data.toList c=i:=⟨(Lib.indexByte s.data.toList c).toNat,by omega⟩
  have hlt:=index_lt hI
  rw [cutV_some hI]
  rw [hI] at hi
  have c1 : ¬ ((i:Int)<0):=by omega
  have c2:(i:Int)≤(s.size:Int):=by omega
  have c3:(i:Int)+1≤(s.size:Int):=by omega
  have c4:(s.size:Int)≤4611686018427387904:=by omega
  have c5:(0:Int)≤(i:Int):=by omega
  clear h hge hI hlt
  go_enter Tryz.func72,Tryz.ntmps72
  go_wp2_with fail
  refine (hi _).mono ?_
  rintro e w1 ⟨rfl,rfl⟩
  go_wp2_with fail
  go_quiet (fail)
  go_wp2_with fail
  go_ret3
  exact ⟨rfl,below_drewN (Below.refl _ _) _⟩
theorem scut_any (s:ByteArray) (c:UInt8) (w:World) (hs:s.size≤4611686018427387904):Calls Tryz.prog 49 #[.string s,.string ⟨#[c]⟩] w fun e w'=>e=.returned (cutV c s)∧Below w.heap.size w w':=by
 have h:=scut1_any s c w hs
 obtain ⟨a,b,f,hc⟩:∃ a b f,cutV c s=.tuple #[.string a,.string b,.bool f]:=by
  unfold cutV
  split
  ·exact ⟨_,_,_,rfl⟩
  ·exact ⟨_,_,_,rfl⟩
 rw [hc] at h ⊢
 clear hc hs
 go_enter Tryz.func49,Tryz.ntmps49
 go_wp2_with fail
 refine h.mono ?_
 rintro e w1 ⟨rfl,hb⟩
 go_wp2_with fail
 go_ret3
 exact ⟨rfl,hb⟩
def sg1B (x:ByteArray):Bool:=isB x [43] || isB x [45] || isB x [126]
def sg1I (x:ByteArray):Int:=if isB x [43]=true then 1 else if isB x [45]=true then -1 else 0
theorem ssign_any (s:ByteArray) (w:World):Calls Tryz.prog 147 #[.string s] w fun e w'=>e=.returned (.tuple #[.int .i64 (sg1I s),.bool (sg1B s)])∧w'=w:=by
 unfold sg1I sg1B
 cases h0:isB s [43] with
 | true =>
  have g:s.toList=[43]:=by simpa [isB] using h0
  simp only [if_true,Bool.true_or]
  clear h0
  go_enter Tryz.func147,Tryz.ntmps147
  go_wp2_with fail
  go_ret2
  exact ⟨rfl,rfl⟩
 | false =>
  have g:(s.toList == [43])=false:=h0
  cases h1:isB s [45] with
  | true =>
   have g1:s.toList=[45]:=by simpa [isB] using h1
   simp only [if_true,Bool.true_or,Bool.or_true,Bool.false_eq_true,if_false]
   clear h0 h1 g
   go_enter Tryz.func147,Tryz.ntmps147
   go_wp2_with fail
   go_ret2
   exact ⟨rfl,rfl⟩
  | false =>
   have g1:(s.toList == [45])=false:=h1
   cases h2:isB s [126] with
   | true =>
    have g2:s.toList=[126]:=by simpa [isB] using h2
    simp only [Bool.or_true,Bool.false_eq_true,if_false]
    clear h0 h1 h2 g g1
    go_enter Tryz.func147,Tryz.ntmps147
    go_wp2_with fail
    go_ret2
    exact ⟨rfl,rfl⟩
   | false =>
    have g2:(s.toList == [126])=false:=h2
    simp only [Bool.or_self,Bool.false_eq_true,if_false]
    clear h0 h1 h2
    go_enter Tryz.func147,Tryz.ntmps147
    go_wp2_with fail
    go_ret2
    exact ⟨rfl,rfl⟩
def s3 (a:UInt8):Bool:=decide (a=45) || decide (a=126) || decide (a=43)
def sgL:List UInt8→Bool
 | []=>false
 | [a]=>s3 a
 | [_,_]=>false
 | a :: b :: _ :: _=>decide (b=61) && s3 a
def sg1L:List UInt8→Bool
 | [a]=>s3 a
 | _=>false
theorem sgOk_l (x:ByteArray):sgOk x=sgL x.data.toList:=by
 unfold sgOk
 rw [Lib.size_eq x]
 generalize x.data.toList=l
 rcases l with _ | ⟨a,_ | ⟨b,_ | ⟨c,r⟩⟩⟩
 ·rfl
 ·simp [sgL,s3]
 ·simp [sgL]
 ·by_cases h:b=61
  ·simp [sgL,s3,h]
  ·simp [sgL,h]
theorem isB_l (x:ByteArray) (l:List UInt8):isB x l=decide (x.data.toList=l):=by
 unfold isB
 rw [ByteArray.toList_eq]
 by_cases h:x.data.toList=l
 ·rw [decide_eq_true h,h];simp
 ·rw [decide_eq_false h];simpa using h
theorem sg1_l (x:ByteArray):sg1B x=sg1L x.data.toList:=by
 unfold sg1B
 simp only [isB_l]
 generalize x.data.toList=l
 rcases l with _ | ⟨a,_ | ⟨b,r⟩⟩
 ·rfl
 ·simp only [sg1L,s3,List.cons.injEq,and_true]
  by_cases h1:a=43
  ·subst h1;rfl
  ·by_cases h2:a=45
   ·subst h2;rfl
   ·by_cases h3:a=126
    ·subst h3;rfl
    ·simp [h1,h2,h3]
 ·simp [sg1L]
theorem sgI_l {x:ByteArray} (h:sgOk x=true):∃ a r,x.data.toList=a :: r∧sgI x=(if a=43 then 1 else if a=45 then -1 else 0)∧(r=[]∧foS x=noWd∨(∃ c t,r=61 :: c :: t)∧foS x=x.extract 2 x.size):=by
 have hin:sgIn x=true:=by
  unfold sgOk at h
  unfold sgIn
  rw [Bool.and_eq_true] at h
  exact h.1
 have h2:=h
 rw [sgOk_l] at h2
 have hsz:=Lib.size_eq x
 unfold sgI foS
 rw [if_pos hin]
 generalize hl:x.data.toList=l at h2 hsz
 rcases l with _ | ⟨a,_ | ⟨b,_ | ⟨c,r⟩⟩⟩
 ·cases h2
 ·refine ⟨a,[],rfl,?_,Or.inl ⟨rfl,?_⟩⟩
  ·simp only [sgL,s3] at h2
   by_cases h1:a=43
   ·subst h1;rfl
   ·by_cases h3:a=45
    ·subst h3;rfl
    ·by_cases h4:a=126
     ·subst h4;rfl
     ·simp [h1,h3,h4] at h2
  ·rw [if_neg]
   simp at hsz
   omega
 ·cases h2
 ·simp only [sgL,Bool.and_eq_true,decide_eq_true_eq] at h2
  obtain ⟨rfl,h2⟩:=h2
  refine ⟨a,61 :: c :: r,rfl,?_,Or.inr ⟨⟨c,r,rfl⟩,?_⟩⟩
  ·simp only [s3] at h2
   by_cases h1:a=43
   ·subst h1;rfl
   ·by_cases h3:a=45
    ·subst h3;rfl
    ·by_cases h4:a=126
     ·subst h4;rfl
     ·simp [h1,h3,h4] at h2
  ·rw [if_pos ⟨hin,by simp at hsz;omega⟩]
theorem sg1I_l {x:ByteArray} {a:UInt8} (h:x.data.toList=[a]):sg1I x=if a=43 then 1 else if a=45 then -1 else 0:=by
 unfold sg1I
 simp only [isB_l,h,List.cons.injEq,and_true,decide_eq_true_eq]
theorem tail_none {x:ByteArray} (h:Lib.indexByte x.data.toList 61 = -1):sg1B x=sgOk x∧(sgOk x=true→sg1I x=sgI x∧(⟨#[]⟩:ByteArray)=foS x):=by
 refine ⟨?_,fun hs=>?_⟩
 ·rw [sgOk_l,sg1_l]
  have hn:=Lib.indexByte_none h
  generalize x.data.toList=l at hn
  rcases l with _ | ⟨a,_ | ⟨b,_ | ⟨c,r⟩⟩⟩
  ·rfl
  ·rfl
  ·rfl
  ·have:b≠61:=fun e=>hn 1 (by rw [e];rfl)
   simp [sg1L,sgL,this]
 ·obtain ⟨a,r,hl,hI,⟨rfl,hf⟩ | ⟨⟨c,t,rfl⟩,-⟩⟩:=sgI_l hs
  ·exact ⟨(sg1I_l hl).trans hI.symm,hf.symm⟩
  ·exact absurd (by rw [hl];rfl) (Lib.indexByte_none h 1)
theorem tail_end {x:ByteArray} {i:Nat} (h:Lib.indexByte x.data.toList 61=i) (he:i+1=x.size):sgOk x=false:=by
 obtain ⟨h1,h2⟩:=Lib.indexByte_some h
 rw [Lib.size_eq] at he
 rw [sgOk_l]
 generalize x.data.toList=l at h1 h2 he
 rcases l with _ | ⟨a,_ | ⟨b,_ | ⟨c,r⟩⟩⟩
 ·rfl
 ·have:i=0:=by simpa using he
  subst this
  have:a=61:=by simpa using h1
  subst this
  rfl
 ·rfl
 ·have h3:i≠1:=by simp at he;omega
  have:b≠61:=fun e=>h2 1 (by simp at he;omega) (by rw [e];rfl)
  simp [sgL,this]
theorem tail_some {x:ByteArray} {i:Nat} (h:Lib.indexByte x.data.toList 61=i) (he:i+1<x.size):sg1B (x.extract 0 i)=sgOk x∧(sgOk x=true→sg1I (x.extract 0 i)=sgI x∧x.extract (i+1) x.size=foS x):=by
 obtain ⟨h1,h2⟩:=Lib.indexByte_some h
 have he':=he
 rw [Lib.size_eq] at he'
 have e0:(x.extract 0 i).data.toList=x.data.toList.take i:=Lib.extract_from_zero x i
 refine ⟨?_,fun hs=>?_⟩
 ·rw [sgOk_l,sg1_l,e0]
  generalize x.data.toList=l at h1 h2 he'
  rcases l with _ | ⟨a,_ | ⟨b,_ | ⟨c,r⟩⟩⟩
  ·simp at he'
  ·simp at he'
  ·have:i=0:=by simp at he';omega
   subst this
   rfl
  ·rcases i with _ | _ | i
   ·have:a=61:=by simpa using h1
    subst this
    simp [sg1L,sgL,s3]
   ·have:b=61:=by simpa using h1
    subst this
    simp [sg1L,sgL]
   ·have:b≠61:=fun e=>h2 1 (by omega) (by rw [e];rfl)
    simp [sg1L,sgL,this]
 ·obtain ⟨a,r,hl,hI,⟨rfl,hf⟩ | ⟨⟨c,t,rfl⟩,hf⟩⟩:=sgI_l hs
  ·rw [hl] at he';simp at he'
  ·have hi:i=1:=by
    rcases i with _ | _ | i
    ·rw [hl] at h1
     have e:a=61:=by simpa using h1
     rw [sgOk_l,hl,e] at hs
     simp [sgL,s3] at hs
    ·rfl
    ·exact absurd (by rw [hl];rfl) (h2 1 (by omega))
   subst hi
   rw [hl] at e0
   exact ⟨(sg1I_l e0).trans hI.symm,hf.symm⟩
theorem stail_any (x:ByteArray) (w:World) (hs:x.size≤1048576):Calls Tryz.prog 109 #[.string x] w fun e w'=>(∃ a f,e=.returned (.tuple #[.int .i64 a,.string f,.bool (sgOk x)])∧(sgOk x=true→a=sgI x∧f=foS x))∧Below w.heap.size w w':=by
 have hc:=scut_any x 61 w (by omega)
 have hge:=Lib.indexByte_ge x.data.toList 61
 by_cases h:Lib.indexByte x.data.toList 61 = -1
 ·rw [cutV_none h] at hc
  obtain ⟨h1,h2⟩:=tail_none h
  have H1:=hid_of h1
  have H2:=hid_of h2
  have hg:=ssign_any x
  rw [h1] at hg
  clear h hge h1 h2 hs
  go_enter Tryz.func109,Tryz.ntmps109
  go_wp2_with fail
  refine hc.mono ?_
  rintro e w1 ⟨rfl,hb⟩
  go_wp2_with fail
  refine (hg _).mono ?_
  rintro e w2 ⟨rfl,rfl⟩
  go_wp2_with fail
  go_ret3
  exact ⟨⟨_,_,rfl,H2.out⟩,hb⟩
 ·obtain ⟨i,hI⟩:∃ i:Nat,Lib.indexByte x.data.toList 61=i:=⟨(Lib.indexByte x.data.toList 61).toNat,by omega⟩
  have hlt:=index_lt hI
  rw [cutV_some hI] at hc
  have hsz:(x.extract (i+1) x.size).size=x.size-(i+1):=by rw [ByteArray.size_extract];omega
  by_cases he:i+1=x.size
  ·have hf:x.extract (i+1) x.size=⟨#[]⟩:=by
    refine ByteArray.ext (Array.eq_empty_of_size_eq_zero ?_)
    show (x.extract (i+1) x.size).size=0
    omega
   rw [hf] at hc
   rw [tail_end hI he]
   generalize x.extract 0 i=y at hc
   clear h hge hI hlt hsz he hf hs
   go_enter Tryz.func109,Tryz.ntmps109
   go_wp2_with fail
   refine hc.mono ?_
   rintro e w1 ⟨rfl,hb⟩
   go_wp2_with fail
   go_ret3
   exact ⟨⟨_,_,rfl,fun h=>by cases h⟩,hb⟩
  ·obtain ⟨h1,h2⟩:=tail_some hI (by omega)
   have H2:=hid_of h2
   have hg:=ssign_any (x.extract 0 i)
   rw [h1] at hg
   have hne:(x.extract (i+1) x.size).toList.isEmpty=false:=ne_empty7 (by omega)
   clear h hge hI hlt h1 h2 hs he hsz
   generalize x.extract 0 i=y at hc hg H2
   generalize x.extract (i+1) x.size=z at hc hne H2
   go_enter Tryz.func109,Tryz.ntmps109
   go_wp2_with fail
   refine hc.mono ?_
   rintro e w1 ⟨rfl,hb⟩
   go_wp2_with fail
   refine (hg _).mono ?_
   rintro e w2 ⟨rfl,rfl⟩
   go_wp2_with fail
   go_ret3
   exact ⟨⟨_,_,rfl,H2.out⟩,hb⟩
end Go.Proofs.YtinebmjpdkjooaaGreatDoor
namespace Go.Proofs.YtinebmjpdkjooaaGreatDoor
open Go Go.ChangeShapes Go.WideShapes Go.ChangeAt Go.RowKit
set_option maxRecDepth 100000
theorem decode_high (s:ByteArray) (pos:Nat) (h:pos<s.size) (hb:128≤(s[pos]'h).toNat):128≤(Utf8.decode s pos).1∧(Utf8.decode s pos).1≤2147483647∧1≤(Utf8.decode s pos).2∧pos+(Utf8.decode s pos).2≤s.size∧∀ j,j<(Utf8.decode s pos).2→128≤(s.get! (pos+j)).toNat:=by
 have e:(s.get! pos).toNat=(s[pos]'h).toNat:=by
  congr 1
  simp [ByteArray.get!,getElem!_pos,h]
  rfl
 have hd:=decode_le s pos
 rw [Lib.decode_at] at hd ⊢
 have b0:=(s.get! pos).toNat_lt
 have b1:=(s.get! (pos+1)).toNat_lt
 have b2:=(s.get! (pos+2)).toNat_lt
 have b3:=(s.get! (pos+3)).toNat_lt
 have hr:∃ m,pos+m=s.size∧1≤m:=⟨s.size-pos,by omega,by omega⟩
 obtain ⟨m,hm,hm1⟩:=hr
 have hx0:128≤(s.get! pos).toNat:=by omega
 have key:∀ x0 x1 x2 x3:Nat,128≤x0→x0<256→x1<256→x2<256→x3<256→128≤(Lib.decodeN m x0 x1 x2 x3).1∧1≤(Lib.decodeN m x0 x1 x2 x3).2∧(Lib.decodeN m x0 x1 x2 x3).2≤m∧(Lib.decodeN m x0 x1 x2 x3).2≤4∧(1<(Lib.decodeN m x0 x1 x2 x3).2→128≤x1)∧(2<(Lib.decodeN m x0 x1 x2 x3).2→128≤x2)∧(3<(Lib.decodeN m x0 x1 x2 x3).2→128≤x3):=by
  intro x0 x1 x2 x3 h0 h1 h2 h3 h4
  unfold Lib.decodeN
  rw [if_neg (by omega)]
  repeat' split
  all_goals (refine ⟨?_,?_,?_,?_,?_,?_,?_⟩ <;> simp only <;> omega)
 obtain ⟨k1,k2,k3,k4,k5,k6,k7⟩:=key _ _ _ _ hx0 b0 b1 b2 b3
 rw [show s.size-pos=m by omega] at hd ⊢
 refine ⟨k1,hd,k2,by omega,fun j hj=>?_⟩
 rcases j with _ | _ | _ | _ | j
 ·exact hx0
 ·exact k5 hj
 ·exact k6 (by omega)
 ·exact k7 (by omega)
 ·omega
def eqDot:ByteArray:=⟨#[61,46]⟩
theorem svalid_any (r:Int) (w:World) (h0:128≤r):Calls Tryz.prog 217 #[.int .i32 r] w fun e w'=>e=.returned (.bool (Utf8.valid r))∧w'=w:=by
 rw [validRune_eq]
 unfold validRune
 by_cases h1:r<55296
 ·rw [decide_eq_true (Or.inl ⟨by omega,h1⟩)]
  have c0:(0:Int)≤r:=by omega
  go_enter Tryz.func217,Tryz.ntmps217
  go_wp2_with fail
  go_ret
  exact ⟨rfl,rfl⟩
 ·by_cases h2:57343<r∧r≤1114111
  ·rw [decide_eq_true (Or.inr h2)]
   obtain ⟨h3,h4⟩:=h2
   have c0:(0:Int)≤r:=by omega
   go_enter Tryz.func217,Tryz.ntmps217
   go_wp2_with fail
   go_ret
   exact ⟨rfl,rfl⟩
  ·rw [decide_eq_false (by omega)]
   have c0:(0:Int)≤r:=by omega
   by_cases h3:57343<r
   ·have h4 : ¬ r≤1114111:=by omega
    clear h2
    go_enter Tryz.func217,Tryz.ntmps217
    go_wp2_with fail
    go_ret
    exact ⟨rfl,rfl⟩
   ·clear h2
    go_enter Tryz.func217,Tryz.ntmps217
    go_wp2_with fail
    go_ret
    exact ⟨rfl,rfl⟩
set_option maxHeartbeats 8000000 in
theorem sirune_err (w:World):Calls Tryz.prog 186 #[.string eqDot,.int .i32 65533] w fun e w'=>e=.returned (.int .i64 (-1))∧Below w.heap.size w w':=by
 unfold eqDot
 go_enter Tryz.func186,Tryz.ntmps186
 go_wp2_with fail
 go_loopg [5,6] 2 (fun g _ _ wx => ∃ i:Nat,i+g=2∧wx=w.iter ⟨#[61,46]⟩ i)
 case atStart=>exact ⟨0,by omega,rfl⟩
 case round =>
  obtain ⟨i,hig,rfl⟩:=hrel
  cases gk with
  | zero =>
   obtain rfl:i=2:=by omega
   have hnx:=run_next_end (P:=Tryz.prog) w ⟨#[61,46]⟩ 2
   go_wp2_with fail
   go_ret
   exact ⟨rfl,(Below.refl _ _).alloc (Nat.le_refl _) _⟩
  | succ g =>
   rcases i with _ | _ | i
   ·have hnx:=fun ty=>run_next_ascii (P:=Tryz.prog) w ⟨#[61,46]⟩ 0 ty (by decide) (by decide)
    have hx:(((⟨#[61,46]⟩:ByteArray)[0]'(by decide)).toNat:Int)=61:=by rfl
    rw [hx] at hnx
    go_wp2_with fail
    go_roundg g
    case measure=>omega
    case rel=>exact ⟨1,by omega,rfl⟩
   ·have hnx:=fun ty=>run_next_ascii (P:=Tryz.prog) w ⟨#[61,46]⟩ 1 ty (by decide) (by decide)
    have hx:(((⟨#[61,46]⟩:ByteArray)[1]'(by decide)).toNat:Int)=46:=by rfl
    rw [hx] at hnx
    go_wp2_with fail
    go_roundg g
    case measure=>omega
    case rel=>exact ⟨2,by omega,rfl⟩
   ·omega
theorem sibyte_end (S:ByteArray) (hS:S.size=2) (c:Int) (w:World):Calls Tryz.prog 196 #[.string (S.extract 2 S.size),.int .u8 c] w fun e w'=>e=.returned (.int .i64 (-1))∧w'=w:=by
 have h:=Any.strings_IndexByte Tryz.lays137 (S.extract 2 S.size) c w
 have e0:(S.extract 2 S.size).data.toList=[]:=List.length_eq_zero_iff.1 (by rw [←Lib.size_eq,ByteArray.size_extract];omega)
 rw [e0] at h
 exact h
set_option maxHeartbeats 8000000 in
theorem sirune_two (S:ByteArray) (h2:S.size=2) (h46:S[1]'(by omega)=46) (r:Int) (E:ByteArray) (w:World) (h0:128≤r) (hr:(r == 65533)=false) (hv:Utf8.valid r=true) (hE:Utf8.encode r=E) (hs:E.size=2) (hb:128≤(E[1]'(by omega)).toNat):Calls Tryz.prog 186 #[.string S,.int .i32 r] w fun e w'=>e=.returned (.int .i64 (-1))∧Below w.heap.size w w':=by
 have hV:=svalid_any r w h0
 rw [hv] at hV
 have HC:=hid_of (sibyte_end S h2)
 have c0 : ¬ r<128:=by omega
 have c1:(0:Int)≤r:=by omega
 have c2:(E.size:Int)=2:=by omega
 have c3:1<E.size:=by omega
 have d2:(S.size:Int)=2:=by omega
 have d3:1<S.size:=by omega
 have c6:((S[1]'d3).toNat:Int)=46:=by rw [h46];rfl
 have c4:((46:Int) == ((E[1]'c3).toNat:Int))=false:=by rw [beq_eq_false_iff_ne];omega
 have c5:((46:Int) != ((E[1]'c3).toNat:Int))=true:=by simp only [bne,c4];rfl
 clear hv hs hb h2 h46
 go_enter Tryz.func186,Tryz.ntmps186
 go_wp2_with fail
 refine hV.mono ?_
 rintro e w1 ⟨rfl,rfl⟩
 go_wp2_with fail
 have hcv:∀ w:World,(convert 21 9 (.int .i32 r)).run Tryz.prog w=.ok (.string E) w:=fun w=>by rw [←hE];exact run_convert_int_string w 21 9 .i32 r (by kernel_rfl) (by kernel_rfl)
 clear hE
 apply wp_scope_straight
 go_wp2_with fail
 go_loopg [9] 0 (fun g s9 wr=>s9=.int .i64 1∧wr=w1)
 case atStart=>exact ⟨rfl,rfl⟩
 case round =>
  obtain ⟨rfl,rfl⟩:=hrel
  go_wp2_with fail
  apply wp_scope_straight
  go_wp2_with fail
  go_quiet (fail)
  go_wp2_with fail
  have hw2:IntKind.i64.wrap 2=2:=by decide
  have hw3:IntKind.i64.wrap ((1:Int)+1)=2:=by decide
  have d4:(2:Int)≤(S.size:Int):=by omega
  clear d2
  go_region_law ((go_simp;refine (HC.out _ _).mono ?_;rintro e w6 ⟨rfl,rfl⟩))
  all_goals
   go_wp2_with fail
   simp only [Exit.noGoto_ret,Exit.then,Exit.inBlock]
   go_ret
   exact ⟨rfl,below_drewN (Below.refl _ _) _⟩
set_option maxHeartbeats 8000000 in
theorem sirune_more (S:ByteArray) (h2:S.size=2) (r:Int) (E:ByteArray) (w:World) (h0:128≤r) (hr:(r == 65533)=false) (hv:Utf8.valid r=true) (hE:Utf8.encode r=E) (hs:3≤E.size) (hs4:E.size≤4):Calls Tryz.prog 186 #[.string S,.int .i32 r] w fun e w'=>e=.returned (.int .i64 (-1))∧Below w.heap.size w w':=by
 have hV:=svalid_any r w h0
 rw [hv] at hV
 have c0 : ¬ r<128:=by omega
 have c1:(0:Int)≤r:=by omega
 obtain ⟨l,hl⟩:∃ l:Nat,E.size=l+1:=⟨E.size-1,by omega⟩
 have c2:(E.size:Int)=(l:Int)+1:=by omega
 have c3 : ¬ (l:Int)<2:=by omega
 have d2:(S.size:Int)=2:=by omega
 have c4:(l:Int)≤3:=by omega
 clear hv hs hs4 h2 hl
 go_enter Tryz.func186,Tryz.ntmps186
 go_wp2_with fail
 refine hV.mono ?_
 rintro e w1 ⟨rfl,rfl⟩
 go_wp2_with fail
 have hcv:∀ w:World,(convert 21 9 (.int .i32 r)).run Tryz.prog w=.ok (.string E) w:=fun w=>by rw [←hE];exact run_convert_int_string w 21 9 .i32 r (by kernel_rfl) (by kernel_rfl)
 clear hE
 apply wp_scope_straight
 go_wp2_with fail
 go_loopg [9] 0 (fun g s9 wr=>s9=.int .i64 (l:Nat)∧wr=w1)
 case atStart=>exact ⟨by go_num,rfl⟩
 case round =>
  obtain ⟨rfl,rfl⟩:=hrel
  go_wp2_with fail
  simp only [Exit.noGoto_ret,Exit.inBlock]
  go_ret
  exact ⟨rfl,Below.refl _ _⟩
set_option maxHeartbeats 8000000 in
theorem sirune_bad (S:ByteArray) (r:Int) (w:World) (h0:128≤r) (hr:(r == 65533)=false) (hv:Utf8.valid r=false):Calls Tryz.prog 186 #[.string S,.int .i32 r] w fun e w'=>e=.returned (.int .i64 (-1))∧Below w.heap.size w w':=by
 have hV:=svalid_any r w h0
 rw [hv] at hV
 have c0 : ¬ r<128:=by omega
 have c1:(0:Int)≤r:=by omega
 clear hv
 go_enter Tryz.func186,Tryz.ntmps186
 go_wp2_with fail
 refine hV.mono ?_
 rintro e w1 ⟨rfl,rfl⟩
 go_wp2_with fail
 go_ret
 exact ⟨rfl,Below.refl _ _⟩
theorem sirune_any (r:Int) (w:World) (h0:128≤r):Calls Tryz.prog 186 #[.string eqDot,.int .i32 r] w fun e w'=>e=.returned (.int .i64 (-1))∧Below w.heap.size w w':=by
 by_cases he:r=65533
 ·subst he;exact sirune_err w
 ·have hr:(r == 65533)=false:=by simpa using he
  by_cases hv:Utf8.valid r=true
  ·obtain ⟨f1,f2,f3⟩:=encode_facts r hv h0
   by_cases h2:(Utf8.encode r).size=2
   ·refine sirune_two eqDot rfl rfl r _ w h0 hr hv rfl h2 ?_
    have:=f3 (by omega)
    simpa only [h2] using this
   ·exact sirune_more eqDot rfl r _ w h0 hr hv rfl (by omega) f2
  ·exact sirune_bad eqDot r w h0 hr (by simpa using hv)
theorem below_iterAt {N k:Nat} {a w:World} (h:Below N a w) (hk:N≤k) (s:ByteArray) (p:Nat):Below N a (w.iterAt k s p) :=
 h.trans ⟨rfl,rfl,rfl,by simp [World.iterAt],fun i hi=>by simp [World.iterAt,Array.getElem?_setIfInBounds];intro e;omega⟩
def eqd:List UInt8:=[61,46]
theorem noany_step {s:ByteArray} {i n:Nat} (h:Lib.NoAny s.data.toList eqd i) (hn:i+n≤s.size) (hb:∀ j,j<n→128≤(s.get! (i+j)).toNat):Lib.NoAny s.data.toList eqd (i+n):=by
 intro j b hj hb'
 by_cases hlt:j<i
 ·exact h j b hlt hb'
 ·have h1:=hb (j-i) (by omega)
  rw [show i+(j-i)=j by omega] at h1
  have h2:j<s.size:=by omega
  have h3:s.get! j=b:=by
   have:s.data.toList[j]?=some s[j]:=by rw [List.getElem?_eq_getElem (by simpa using h2)];rfl
   rw [this] at hb'
   rw [←Option.some.inj hb']
   simp [ByteArray.get!,getElem!_pos,h2]
   rfl
  rw [h3] at h1
  have h4:b≠61:=fun e=>by subst e;exact absurd h1 (by decide)
  have h5:b≠46:=fun e=>by subst e;exact absurd h1 (by decide)
  simp [eqd,h4,h5]
set_option maxHeartbeats 8000000 in
theorem sindex_short (s:ByteArray) (w:World) (h8:s.size≤8):Calls Tryz.prog 170 #[.string s,.string eqDot] w fun e w'=>e=.returned (.int .i64 (Lib.indexAny s.data.toList eqd))∧Below w.heap.size w w':=by
 have hU:∀ (n:Int) (w:World),Calls Tryz.prog 187 #[.int .i64 n] w fun e w'=>e=.returned (.bool (decide (8<n)))∧w'=w:=fun n w=>Any.strings_shouldUseASCIISet Tryz.lays226 n w
 have hu:=hU s.size
 have h8z:decide ((8:Int)<(s.size:Int))=false:=decide_eq_false (by omega)
 rw [h8z] at hu
 have hA:∀ (x:UInt8) (w:World),x.toNat<128→Calls Tryz.prog 186 #[.string eqDot,.int .i32 x.toNat] w fun e w'=>e=.returned (.int .i64 (Lib.indexByte eqd x))∧w'=w:=fun x w hx=>by
  have h:=Any.strings_IndexRune_ascii Tryz.lays152 eqDot x.toNat w (by omega) (by omega)
  have hback:((x.toNat:Int)).toNat.toUInt8=x:=by simp
  rw [hback] at h
  exact h
 have HA:=hid_of hA
 have HI:=hid_of sirune_any
 have e1:eqDot.toList.isEmpty=false:=by rw [ByteArray.toList_eq];rfl
 have e2:(eqDot.size:Int)=2:=rfl
 obtain ⟨ch,hch⟩:∃ ch,eqDot=ch:=⟨_,rfl⟩
 rw [hch] at e1 e2 HA HI ⊢
 clear hA hU h8z hch
 go_enter Tryz.func170,Tryz.ntmps170
 go_wp2_with fail
 refine (hu _).mono ?_
 rintro e w1 ⟨rfl,rfl⟩
 go_wp2_with fail
 clear hu
 go_loopg [9,10] s.size (fun g _ _ wx => ∃ i:Nat,i≤s.size∧g=s.size-i∧wx.heap[w1.heap.size]?=some (.stringIter s i)∧Hid (Below w1.heap.size w1 wx)∧Hid (Lib.NoAny s.data.toList eqd i))
 case atStart=>exact ⟨0,Nat.zero_le _,rfl,World.iter_heap _ _ _,hid_of ((Below.refl _ _).alloc (Nat.le_refl _) _),hid_of (Lib.NoAny.zero _ _)⟩
 case round =>
  obtain ⟨i,hi,rfl,hk,HB,HN⟩:=hrel
  by_cases hlt:i<s.size
  ·obtain ⟨x,hx⟩:∃ x:UInt8,s[i]'hlt=x:=⟨_,rfl⟩
   have hxl:s.data.toList[i]?=some x:=by rw [←hx];exact Lib.data_getElem? s i hlt
   have Hx:=hid_of hxl
   have hsz:=(Array.getElem?_eq_some_iff.1 hk).1
   by_cases hx128:x.toNat<128
   ·have hnx:=fun ty=>Lib.run_next_ascii_at (P:=Tryz.prog) wr w1.heap.size s i ty hk hlt (by rw [hx];exact hx128)
    rw [hx] at hnx
    have hr:=fun w=>HA.out x w hx128
    have hk2:=Lib.iterAt_heap wr w1.heap.size s i (i+1) hk
    have HB2:=hid_of (below_iterAt HB.out (Nat.le_refl _) s (i+1))
    generalize wr.iterAt w1.heap.size s (i+1)=wx at hnx hk2 HB2
    have hcon:=Lib.contains_iff_indexByte eqd x
    cases hin:eqd.contains x
    ·rw [hin] at hcon
     have hge : ¬ ((0:Int)≤Lib.indexByte eqd x):=of_decide_eq_false hcon.symm
     have HIN:=hid_of hin
     generalize Lib.indexByte eqd x=o at hr hge
     clear hcon hxl hx128 hk hx hin
     go_wp2_with fail
     refine (hr _).mono ?_
     rintro e w2 ⟨rfl,rfl⟩
     go_wp2_with fail
     go_roundg (s.size-(i+1))
     case measure=>omega
     case rel=>exact ⟨i+1,by omega,rfl,hk2,HB2,hid_of (HN.out.succ Hx.out HIN.out)⟩
    ·rw [hin] at hcon
     have hge:(0:Int)≤Lib.indexByte eqd x:=of_decide_eq_true hcon.symm
     have HE:=hid_of (Lib.indexAny_hit HN.out hxl hin)
     generalize Lib.indexByte eqd x=o at hr hge
     clear hcon hxl hx128 hk hx hin
     go_wp2_with fail
     refine (hr _).mono ?_
     rintro e w2 ⟨rfl,rfl⟩
     go_wp2_with fail
     go_ret
     exact ⟨by rw [HE.out];rfl,HB2.out⟩
   ·have hd:=decode_high s i hlt (by rw [hx];omega)
    have hnx:=fun ty=>Lib.run_next_any_at (P:=Tryz.prog) wr w1.heap.size s i ty hk hlt
    generalize Utf8.decode s i=dd at hd hnx
    obtain ⟨d,n⟩:=dd
    obtain ⟨hd1,hd2,hd3,hd4,hd5⟩:=hd
    simp only at hd1 hd2 hd3 hd4 hd5 hnx
    have hr:=fun w=>HI.out (d:Int) w (by omega)
    have hk2:=Lib.iterAt_heap wr w1.heap.size s i (i+n) hk
    have HB2:=hid_of (below_iterAt HB.out (Nat.le_refl _) s (i+n))
    have hsz2:w1.heap.size<(wr.iterAt w1.heap.size s (i+n)).heap.size:=(Array.getElem?_eq_some_iff.1 hk2).1
    generalize wr.iterAt w1.heap.size s (i+n)=wx at hnx hk2 HB2 hsz2
    have HN2:=hid_of (noany_step HN.out hd4 hd5)
    have hd6:(d:Int)≤2147483647:=by omega
    clear hxl hk hx hd5 hd1 hd2
    go_wp2_with fail
    refine (hr _).mono ?_
    rintro e w2 ⟨rfl,hb2⟩
    have hk3:=(hb2.block w1.heap.size hsz2).trans hk2
    have HB3:=hid_of (HB2.out.trans (hb2.mono (by omega)))
    go_wp2_with fail
    go_roundg (s.size-(i+n))
    case measure=>omega
    case rel=>exact ⟨i+n,hd4,rfl,hk3,HB3,HN2⟩
  ·have he:i=s.size:=by omega
   subst he
   have hnx:=fun ty=>Lib.run_next_end_at (P:=Tryz.prog) wr w1.heap.size s s.size ty hk hlt
   have HE:=hid_of (Lib.indexAny_none (by rw [←Lib.size_eq];exact HN.out))
   go_wp2_with fail
   go_ret
   exact ⟨by rw [HE.out];rfl,HB.out⟩
theorem sset_info:(Tryz.prog.info? 242).map (fun i=>(i.zero,i.size))=some (some (.agg (Array.replicate 256 (.bool false))),256):=by kernel_rfl
theorem sindex_any (s:ByteArray) (w:World) (hs:s.size≤1048576):Calls Tryz.prog 170 #[.string s,.string eqDot] w fun e w'=>e=.returned (.int .i64 (Lib.indexAny s.data.toList eqd))∧Below w.heap.size w w':=by
 by_cases h8:s.size≤8
 ·exact sindex_short s w h8
 ·refine (Any.strings_IndexAny_long Tryz.lays153 (zero_of_info sset_info).1 (zero_of_info sset_info).2 s eqDot w (by decide) (by omega) (by omega) (by decide) ?_).mono fun e w' ⟨h1,h2⟩=>⟨h1,?_⟩
  ·intro j b hb
   rcases j with _ | _ | j
   ·have:b=61:=(Option.some.inj hb).symm
    subst this;decide
   ·have:b=46:=(Option.some.inj hb).symm
    subst this;decide
   ·cases hb
  ·rw [h2]
   exact ((Below.refl _ _).alloc (Nat.le_refl _) _).alloc (by simp) _
theorem index_badW:∀ l:List UInt8,decide (0≤Lib.indexAny l eqd)=l.any badW
 | []=>rfl
 | b :: l=>by
  have ih:=index_badW l
  have hge:=Lib.indexAny_ge eqd l
  rw [Lib.indexAny,List.any_cons,←ih]
  have hb:eqd.contains b=badW b:=by
   simp only [eqd,badW,List.contains_cons,List.contains_nil,Bool.or_false]
  rw [hb]
  cases badW b with
  | true=>rfl
  | false =>
   simp only [Bool.false_or,Bool.false_eq_true,if_false]
   by_cases h:Lib.indexAny l eqd = -1
   ·rw [h];rfl
   ·rw [if_neg (by simpa using h)]
    rw [decide_eq_true (by omega),decide_eq_true (by omega)]
theorem scontains_any (s:ByteArray) (w:World) (hs:s.size≤1048576):Calls Tryz.prog 145 #[.string s,.string eqDot] w fun e w'=>e=.returned (.bool (s.data.toList.any badW))∧Below w.heap.size w w':=by
 have h:=sindex_any s w hs
 rw [←index_badW]
 generalize Lib.indexAny s.data.toList eqd=o at h
 generalize eqDot=ch at h
 by_cases ho:0≤o
 ·rw [decide_eq_true ho]
  clear hs
  go_enter Tryz.func145,Tryz.ntmps145
  go_wp2_with fail
  refine h.mono ?_
  rintro e w1 ⟨rfl,hb⟩
  go_wp2_with fail
  go_ret
  exact ⟨by rfl,hb⟩
 ·clear hs
  go_enter Tryz.func145,Tryz.ntmps145
  go_wp2_with fail
  refine h.mono ?_
  rintro e w1 ⟨rfl,hb⟩
  go_wp2_with fail
  go_ret
  exact ⟨by rfl,hb⟩
theorem sname_any (s:ByteArray) (w:World) (hs:s.size≤1048576):Calls Tryz.prog 106 #[.string s] w fun e w'=>e=.returned (.bool (nmW s))∧Below w.heap.size w w':=by
 have h:=scontains_any s w hs
 unfold eqDot at h
 unfold nmW
 cases he:s.data.toList.isEmpty with
 | true =>
  have g:s.toList=[]:=by rw [ByteArray.toList_eq];simpa using he
  simp only [Bool.not_true,Bool.and_false]
  clear hs h he
  go_enter Tryz.func106,Tryz.ntmps106
  go_wp2_with fail
  go_ret
  exact ⟨rfl,Below.refl _ _⟩
 | false =>
  have g:s.toList.isEmpty=false:=by rw [ByteArray.toList_eq];exact he
  generalize s.data.toList.any badW=b at h
  simp only [Bool.not_false,Bool.and_true]
  clear hs he
  cases b
  all_goals
   go_enter Tryz.func106,Tryz.ntmps106
   go_wp2_with fail
   refine h.mono ?_
   rintro e w1 ⟨rfl,hb⟩
   go_wp2_with fail
   go_ret
   exact ⟨rfl,hb⟩
theorem dots_pieces:∀ l:List UInt8,Lib.contains (46 :: (l ++ [46])) [46,46]=(cutB 46 l).any List.isEmpty∧Lib.contains (l ++ [46]) [46,46]=(cutB 46 l).tail.any List.isEmpty
 | []=>⟨by decide,by decide⟩
 | x :: t=>by
  obtain ⟨ih1,ih2⟩:=dots_pieces t
  have step:∀ (a b:UInt8) (r:List UInt8),¬ (a=46∧b=46)→Lib.contains (a :: b :: r) [46,46]=Lib.contains (b :: r) [46,46]:=fun a b r h=>by
   unfold Lib.contains
   have hge:=Lib.index_ge (b :: r) [46,46]
   conv=>lhs;rw [Lib.index]
   have hp:([46,46]:List UInt8).isPrefixOf (a :: b :: r)=false:=by
    simp only [List.isPrefixOf,Bool.and_true]
    by_cases ha:a=46
    ·have hb:b≠46:=fun e=>h ⟨ha,e⟩
     simp [Ne.symm hb]
    ·simp [Ne.symm ha]
   rw [hp]
   simp only [Bool.false_eq_true,if_false]
   by_cases h1:Lib.index (b :: r) [46,46] = -1
   ·rw [h1];rfl
   ·rw [if_neg (by simpa using h1),decide_eq_true (by omega),decide_eq_true (by omega)]
  have two:∀ r:List UInt8,Lib.contains (46 :: 46 :: r) [46,46]=true:=fun r=>by
   unfold Lib.contains
   rw [Lib.index,if_pos (by simp [List.isPrefixOf])]
   rfl
  by_cases hx:x=46
  ·subst hx
   have e:cutB 46 (46 :: t)=[] :: cutB 46 t:=by rw [cutB,if_pos rfl]
   rw [e]
   refine ⟨?_,?_⟩
   ·rw [List.cons_append,two];rfl
   ·rw [List.cons_append,ih1];rfl
  ·have e:(cutB 46 (x :: t)).any List.isEmpty=(cutB 46 t).tail.any List.isEmpty∧(cutB 46 (x :: t)).tail=(cutB 46 t).tail:=by
    rw [cutB,if_neg hx]
    cases hs:cutB 46 t with
    | nil=>exact absurd hs (cutB_ne 46 t)
    | cons a r=>exact ⟨rfl,rfl⟩
   have e2:Lib.contains (x :: (t ++ [46])) [46,46]=Lib.contains (t ++ [46]) [46,46]:=by
    cases ht:t ++ [46] with
    | nil=>simp at ht
    | cons b r=>exact step x b r fun h=>hx h.1
   refine ⟨?_,?_⟩
   ·rw [e.1,List.cons_append,step 46 x _ fun h=>hx h.2,e2,ih2]
   ·rw [e.2,List.cons_append,e2,ih2]
end Go.Proofs.YtinebmjpdkjooaaGreatDoor
