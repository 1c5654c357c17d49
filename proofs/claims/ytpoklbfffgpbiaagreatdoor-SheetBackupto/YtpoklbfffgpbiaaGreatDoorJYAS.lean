/-
  What package sheet's small readers of words answer, called in whatever memory: numbers, parents.
-/
import Derived.Test.YtpoklbfffgpbiaaGreatDoorShelfC
import Derived.Shelf.Strconv.ErrVarAll
import Derived.Shelf.Strconv.AtoiAll
import Derived.Lib.AtoiAllCases
import Derived.Test.YtpoklbfffgpbiaaGreatDoorShelfN
import Derived.Test.YtpoklbfffgpbiaaGreatDoorJYAR
namespace Go.Proofs.YtpoklbfffgpbiaaGreatDoor
open Go.ChangeShapes Go.WideShapes Go.ChangeAt Go.RowKit
set_option maxRecDepth 20000
theorem cell_laterS {w w':World} {a:Addr} {v:Value} (h:w.cell? a=some v) (hb:Below w.heap.size w w'):w'.cell? a=some v:=by
 have hlt:a.block<w.heap.size:=by
  rcases Nat.lt_or_ge a.block w.heap.size with h' | h'
  ·exact h'
  ·simp [World.cell?,Array.getElem?_eq_none h'] at h
 exact (hb.cell (p:=a) hlt).trans h
theorem var_laterS {w w':World} {name:String} {cs:Array Value} (h:w.var? Tryz.prog name=some cs) (hb:Below w.heap.size w w'):w'.var? Tryz.prog name=some cs:=by
 unfold World.var? at *
 cases hg:(Tryz.prog).globalNamed name with
 | none=>simp [hg] at h
 | some g =>
  simp only [hg,Option.bind_some] at h ⊢
  have hlt:g<w.heap.size:=by
   rcases Nat.lt_or_ge g w.heap.size with h' | h'
   ·exact h'
   ·rw [Array.getElem?_eq_none h'] at h;simp at h
  rw [hb.block g hlt]
  exact h
def EnvS (w : World) : Prop := TabE w ∧ (∃ tp p, w.var? Tryz.prog "strconv.ErrSyntax" = some #[.iface tp p]) ∧ (∃ tp p, w.var? Tryz.prog "strconv.ErrRange" = some #[.iface tp p]) ∧ ∃ m, w.cell? ⟨0, 0, none⟩ = some (.int .i64 m)
theorem EnvS.later {w w':World} (h:EnvS w) (hb:Below w.heap.size w w'):EnvS w':=by
 obtain ⟨h1,⟨t1,p1,h2⟩,⟨t2,p2,h3⟩,m,h4⟩:=h
 exact ⟨h1.later hb,⟨t1,p1,var_laterS h2 hb⟩,⟨t2,p2,var_laterS h3 hb⟩,m,cell_laterS h4 hb⟩
theorem digits_lt:∀ (k u:Nat),(Lib.decDigits u).length≤k→u<10 ^ k
 | 0,u,h=>absurd (List.length_eq_zero_iff.1 (Nat.le_zero.1 h)) (decDigits_ne u)
 | k+1,u,h=>by
  by_cases hu:u<10
  ·exact Nat.lt_of_lt_of_le hu (by rw [Nat.pow_succ];have:1≤10 ^ k:=Nat.one_le_pow _ _ (by omega);omega)
  ·rw [Lib.decDigits,dif_neg hu,List.length_append,List.length_singleton] at h
   have:=digits_lt k (u / 10) (by omega)
   rw [Nat.pow_succ]
   omega
theorem num7_end (l:List UInt8):numK 7 l=match Lib.atoiAll l with
  | .ok v=>if -10000000<v∧v<10000000∧Lib.itoa v=l then some v else none
  | _=>none:=by
 by_cases hl:l.length≤18
 ·rw [Lib.atoiAll_short l hl]
  cases hn:Lib.atoi l with
  | none =>
   show numK 7 l=none
   unfold numK
   rw [numP_noatoi l hn]
   split <;> rfl
  | some v =>
   show numK 7 l=if _ then _ else _
   by_cases hq:Lib.itoa v=l
   ·have ht:Lib.trimPrefix l [45]=Lib.decDigits v.natAbs:=by rw [←hq,trim_itoa]
    by_cases hv : -10000000<v∧v<10000000
    ·rw [if_pos ⟨hv.1,hv.2,hq⟩]
     have h7:(Lib.trimPrefix l [45]).length≤7:=by rw [ht];exact nDigits_le _ 7 (by omega) (by omega)
     rw [numK_in h7]
     exact numP_if l (by omega) v hn hq
    ·rw [if_neg fun h=>hv ⟨h.1,h.2.1⟩]
     refine numK_out ?_
     rw [ht]
     rcases Nat.lt_or_ge 7 (Lib.decDigits v.natAbs).length with h | h
     ·exact h
     ·have:=digits_lt 7 _ h
      omega
   ·rw [if_neg fun h=>hq h.2.2]
    unfold numK
    split
    ·unfold numP
     split
     ·rw [hn]
      simp only [if_neg hq]
     ·rfl
    ·rfl
 ·have h1:7<(Lib.trimPrefix l [45]).length:=by
   unfold Lib.trimPrefix
   split
   ·simp only [List.length_drop,List.length_singleton];omega
   ·omega
  rw [numK_out h1]
  cases hn:Lib.atoiAll l with
  | «syntax» => rfl
  | range=>rfl
  | ok v =>
   show none=if _ then _ else _
   rw [if_neg]
   rintro ⟨h2,h3,h4⟩
   have ht:Lib.trimPrefix l [45]=Lib.decDigits v.natAbs:=by rw [←h4,trim_itoa]
   have:=nDigits_le v.natAbs 7 (by omega) (by omega)
   rw [ht] at h1
   omega
theorem snum_bad (s:ByteArray) (hn:numK 7 s.data.toList=none) (w:World) (a:Int)
  (h:Calls Tryz.prog 90 #[.string s] w fun e w'=>(∃ N,e=.returned (.tuple #[.int .i64 a,.iface 175 (.pointer (some ⟨N,0,none⟩))]))∧Below w.heap.size w w') :
  Calls Tryz.prog 61 #[.string s] w fun e w'=>e=.returned (.tuple #[.int .i64 (intI s),.bool (intB s)])∧Below w.heap.size w w':=by
 have hI:intI s=0:=by unfold intI;rw [hn];rfl
 have hB:intB s=false:=by unfold intB;rw [hn];rfl
 rw [hI,hB]
 clear hI hB hn
 go_enter Tryz.func61,Tryz.ntmps61
 go_wp2_with fail
 refine h.mono ?_
 rintro e w1 ⟨⟨N,rfl⟩,hb⟩
 go_wp2_with fail
 go_ret2
 exact ⟨rfl,hb⟩
theorem snum_good (s:ByteArray) (v:Int) (hn:Lib.atoiAll s.data.toList=.ok v) (w:World) (hE:TabE w) (hs:s.size≤1048576) :
  Calls Tryz.prog 61 #[.string s] w fun e w'=>e=.returned (.tuple #[.int .i64 (intI s),.bool (intB s)])∧Below w.heap.size w w':=by
 have h7:=num7_end s.data.toList
 rw [hn] at h7
 obtain ⟨v1,v2⟩:=Lib.atoiAll_bounds hn
 have ha:=(Any.strconv_Atoi_ok Tryz.laysC172 s (by omega) v hn w).mono (R':=fun e w'=>e=.returned (.tuple #[.int .i64 v,.nilIface])∧Below w.heap.size w w') fun e w' ⟨he,hw⟩=>⟨he,by
  rcases hw with rfl | ⟨t,hw⟩
  ·exact Below.refl _ _
  ·rw [hw];exact Lib.bytesWorld_below _ _ _⟩
 by_cases h1:v≤-10000000
 ·rw [show (match (Lib.NumEnd.ok v:Lib.NumEnd Int) with | .ok v=>if -10000000<v∧v<10000000∧Lib.itoa v=s.data.toList then some v else none | _=>none)=none from if_neg fun h=>by omega] at h7
  have hI:intI s=0:=by unfold intI;rw [h7];rfl
  have hB:intB s=false:=by unfold intB;rw [h7];rfl
  rw [hI,hB]
  clear hI hB hn h7
  go_enter Tryz.func61,Tryz.ntmps61
  go_wp2_with fail
  refine ha.mono ?_
  rintro e w1 ⟨rfl,hb⟩
  go_wp2_with fail
  go_ret2
  exact ⟨rfl,hb⟩
 ·by_cases h2:10000000≤v
  ·rw [show (match (Lib.NumEnd.ok v:Lib.NumEnd Int) with | .ok v=>if -10000000<v∧v<10000000∧Lib.itoa v=s.data.toList then some v else none | _=>none)=none from if_neg fun h=>by omega] at h7
   have hI:intI s=0:=by unfold intI;rw [h7];rfl
   have hB:intB s=false:=by unfold intB;rw [h7];rfl
   rw [hI,hB]
   clear hI hB hn h7
   go_enter Tryz.func61,Tryz.ntmps61
   go_wp2_with fail
   refine ha.mono ?_
   rintro e w1 ⟨rfl,hb⟩
   go_wp2_with fail
   go_ret2
   exact ⟨rfl,hb⟩
  ·obtain ⟨q,hq⟩:∃ q,(Lib.itoa v == s.toList)=q:=⟨_,rfl⟩
   have hI:intI s=if q=true then v else 0:=by
    unfold intI
    rw [h7]
    subst hq
    rw [ByteArray.toList_eq]
    by_cases h:Lib.itoa v=s.data.toList
    ·rw [show (match (Lib.NumEnd.ok v:Lib.NumEnd Int) with | .ok v=>if -10000000<v∧v<10000000∧Lib.itoa v=s.data.toList then some v else none | _=>none)=some v from if_pos ⟨by omega,by omega,h⟩,if_pos (by simpa using h)];rfl
    ·rw [show (match (Lib.NumEnd.ok v:Lib.NumEnd Int) with | .ok v=>if -10000000<v∧v<10000000∧Lib.itoa v=s.data.toList then some v else none | _=>none)=none from if_neg fun h'=>h h'.2.2,if_neg (by simpa using h)];rfl
   have hB:intB s=q:=by
    unfold intB
    rw [h7]
    subst hq
    rw [ByteArray.toList_eq]
    by_cases h:Lib.itoa v=s.data.toList
    ·rw [show (match (Lib.NumEnd.ok v:Lib.NumEnd Int) with | .ok v=>if -10000000<v∧v<10000000∧Lib.itoa v=s.data.toList then some v else none | _=>none)=some v from if_pos ⟨by omega,by omega,h⟩]
     exact (beq_iff_eq.2 h).symm
    ·rw [show (match (Lib.NumEnd.ok v:Lib.NumEnd Int) with | .ok v=>if -10000000<v∧v<10000000∧Lib.itoa v=s.data.toList then some v else none | _=>none)=none from if_neg fun h'=>h h'.2.2]
     exact (beq_eq_false_iff_ne.2 h).symm
   rw [hI,hB]
   have hi:=fun w hw=>itoaF v w v1 v2 hw
   clear hI hB hn h7
   generalize Lib.itoa v=t at hi hq
   cases q
   all_goals
    go_enter Tryz.func61,Tryz.ntmps61
    go_wp2_with fail
    refine ha.mono ?_
    rintro e w2 ⟨rfl,hb⟩
    have hw2:=hE.later hb
    go_wp2_with fail
    refine (hi _ hw2).mono ?_
    rintro e w3 ⟨rfl,hb3⟩
    have hB:=onB hb hb3
    go_wp2_with fail
    go_ret2
    exact ⟨rfl,hB⟩
theorem snum_any (s:ByteArray) (w:World) (hE:EnvS w) (hs:s.size≤1048576) :
  Calls Tryz.prog 61 #[.string s] w fun e w'=>e=.returned (.tuple #[.int .i64 (intI s),.bool (intB s)])∧Below w.heap.size w w':=by
 obtain ⟨hT,⟨t1,p1,h1⟩,⟨t2,p2,h2⟩,-⟩:=hE
 cases hn:Lib.atoiAll s.data.toList with
 | ok v=>exact snum_good s v hn w hT hs
 | «syntax» =>
  exact snum_bad s (by rw [num7_end,hn]) w 0 ((Any.strconv_Atoi_syntax_var Tryz.laysC172 s (by omega) hn t1 p1 w h1).mono fun e w' ⟨N,he,_,_,hb⟩=>⟨⟨N,he⟩,hb⟩)
 | range =>
  exact snum_bad s (by rw [num7_end,hn]) w _ ((Any.strconv_Atoi_range_var Tryz.laysC172 s (by omega) hn t2 p2 w h2).mono fun e w' ⟨N,he,_,_,hb⟩=>⟨⟨N,he⟩,hb⟩)
def cntB (s:ByteArray):Bool:=intB s && decide (0≤intI s)
def cntI (s:ByteArray):Int:=if cntB s=true then intI s else 0
theorem scount_any (s:ByteArray) (w:World) (hE:EnvS w) (hs:s.size≤1048576) :
  Calls Tryz.prog 56 #[.string s] w fun e w'=>e=.returned (.tuple #[.int .i64 (cntI s),.bool (cntB s)])∧Below w.heap.size w w':=by
 have h:=snum_any s w hE hs
 unfold cntI cntB
 cases hb:intB s with
 | false =>
  rw [hb] at h
  simp only [Bool.false_and,Bool.false_eq_true,if_false]
  generalize intI s=x at h
  clear hE hs hb
  go_enter Tryz.func56,Tryz.ntmps56
  go_wp2_with fail
  refine h.mono ?_
  rintro e w1 ⟨rfl,hb⟩
  go_wp2_with fail
  go_ret2
  exact ⟨rfl,hb⟩
 | true =>
  rw [hb] at h
  generalize intI s=x at h
  clear hE hs hb
  by_cases hx:0≤x
  ·rw [decide_eq_true hx]
   simp only [Bool.true_and,if_true]
   have hx' : ¬ x<0:=by omega
   clear hx
   go_enter Tryz.func56,Tryz.ntmps56
   go_wp2_with fail
   refine h.mono ?_
   rintro e w1 ⟨rfl,hb⟩
   go_wp2_with fail
   go_ret2
   exact ⟨rfl,hb⟩
  ·rw [decide_eq_false hx]
   simp only [Bool.true_and,Bool.false_eq_true,if_false]
   have hx':x<0:=by omega
   clear hx
   go_enter Tryz.func56,Tryz.ntmps56
   go_wp2_with fail
   refine h.mono ?_
   rintro e w1 ⟨rfl,hb⟩
   go_wp2_with fail
   go_ret2
   exact ⟨rfl,hb⟩
def parI (s:ByteArray):Int:=if isB s [45]=true then -1 else cntI s
theorem par_ok {s:ByteArray} (h:paOk s=true):parI s=paI s:=by
 unfold parI paI cntI cntB
 unfold paOk at h
 split
 ·rfl
 ·rename_i h1
  have h2:isB s [45]=false:=by simpa using h1
  rw [h2,Bool.false_or] at h
  rw [if_pos h]
theorem sparent_any (s:ByteArray) (w:World) (hE:EnvS w) (hs:s.size≤1048576) :
  Calls Tryz.prog 59 #[.string s] w fun e w'=>e=.returned (.tuple #[.int .i64 (parI s),.bool (paOk s)])∧Below w.heap.size w w':=by
 have h:=scount_any s w hE hs
 have e1:paOk s=(isB s [45] || cntB s):=rfl
 rw [e1]
 unfold parI
 generalize cntB s=b at h
 generalize cntI s=x at h
 cases h0:isB s [45] with
 | true =>
  have g:s.toList=[45]:=by simpa [isB] using h0
  simp only [if_true,Bool.true_or]
  clear hE hs h h0 e1
  go_enter Tryz.func59,Tryz.ntmps59
  go_wp2_with fail
  go_ret2
  exact ⟨rfl,Below.refl _ _⟩
 | false =>
  have g:(s.toList == [45])=false:=h0
  simp only [Bool.false_eq_true,if_false,Bool.false_or]
  clear hE hs h0 e1
  go_enter Tryz.func59,Tryz.ntmps59
  go_wp2_with fail
  refine h.mono ?_
  rintro e w1 ⟨rfl,hb⟩
  go_wp2_with fail
  go_ret2
  exact ⟨rfl,hb⟩
theorem sindex_one (s:ByteArray) (c:UInt8) (w:World):Calls Tryz.prog 54 #[.string s,.string ⟨#[c]⟩] w fun e w'=>e=.returned (.int .i64 (Lib.indexByte s.data.toList c))∧w'=w:=Any.stringslite_Index_one Tryz.lays219 s c w
def cutV (c:UInt8) (s:ByteArray):Value:=if Lib.indexByte s.data.toList c<0 then .tuple #[.string s,.string ⟨#[]⟩,.bool false] else .tuple #[.string (s.extract 0 (Lib.indexByte s.data.toList c).toNat),.string (s.extract ((Lib.indexByte s.data.toList c).toNat+1) s.size),.bool true]
theorem cutV_none {c:UInt8} {s:ByteArray} (h:Lib.indexByte s.data.toList c = -1):cutV c s=.tuple #[.string s,.string ⟨#[]⟩,.bool false]:=by unfold cutV;rw [if_pos (by omega)]
theorem cutV_some {c:UInt8} {s:ByteArray} {i:Nat} (h:Lib.indexByte s.data.toList c=i):cutV c s=.tuple #[.string (s.extract 0 i),.string (s.extract (i+1) s.size),.bool true]:=by unfold cutV;rw [if_neg (by omega),h];rfl
theorem index_lt {c:UInt8} {s:ByteArray} {i:Nat} (h:Lib.indexByte s.data.toList c=i):i<s.size:=by
 have:=(cut_hit h).1
 simpa using this
theorem scut1_any (s:ByteArray) (c:UInt8) (w:World) (hs:s.size≤4611686018427387904):Calls Tryz.prog 33 #[.string s,.string ⟨#[c]⟩] w fun e w'=>e=.returned (cutV c s)∧Below w.heap.size w w':=by
 have hi:=fun w=>sindex_one s c w
 have hge:=Lib.indexByte_ge s.data.toList c
 by_cases h:Lib.indexByte s.data.toList c = -1
 ·rw [cutV_none h]
  rw [h] at hi
  clear h hge
  go_enter Tryz.func33,Tryz.ntmps33
  go_wp2_with fail
  refine (hi _).mono ?_
  rintro e w1 ⟨rfl,rfl⟩
  go_wp2_with fail
  go_ret3
  exact ⟨rfl,Below.refl _ _⟩
 ·obtain ⟨i,hI⟩:∃ i:Nat,Lib.indexByte s.data.toList c=i:=⟨(Lib.indexByte s.data.toList c).toNat,by omega⟩
  have hlt:=index_lt hI
  rw [cutV_some hI]
  rw [hI] at hi
  have c1 : ¬ ((i:Int)<0):=by omega
  have c2:(i:Int)≤(s.size:Int):=by omega
  have c3:(i:Int)+1≤(s.size:Int):=by omega
  have c4:(s.size:Int)≤4611686018427387904:=by omega
  have c5:(0:Int)≤(i:Int):=by omega
  clear h hge hI hlt
  go_enter Tryz.func33,Tryz.ntmps33
  go_wp2_with fail
  refine (hi _).mono ?_
  rintro e w1 ⟨rfl,rfl⟩
  go_wp2_with fail
  go_quiet (fail)
  go_wp2_with fail
  go_ret3
  exact ⟨rfl,below_drewN (Below.refl _ _) _⟩
theorem scut_any (s:ByteArray) (c:UInt8) (w:World) (hs:s.size≤4611686018427387904):Calls Tryz.prog 22 #[.string s,.string ⟨#[c]⟩] w fun e w'=>e=.returned (cutV c s)∧Below w.heap.size w w':=by
 have h:=scut1_any s c w hs
 obtain ⟨a,b,f,hc⟩:∃ a b f,cutV c s=.tuple #[.string a,.string b,.bool f]:=by
  unfold cutV
  split
  ·exact ⟨_,_,_,rfl⟩
  ·exact ⟨_,_,_,rfl⟩
 rw [hc] at h ⊢
 clear hc hs
 go_enter Tryz.func22,Tryz.ntmps22
 go_wp2_with fail
 refine h.mono ?_
 rintro e w1 ⟨rfl,hb⟩
 go_wp2_with fail
 go_ret3
 exact ⟨rfl,hb⟩
def sg1B (x:ByteArray):Bool:=isB x [43] || isB x [45] || isB x [126]
def sg1I (x:ByteArray):Int:=if isB x [43]=true then 1 else if isB x [45]=true then -1 else 0
theorem ssign_any (s:ByteArray) (w:World):Calls Tryz.prog 89 #[.string s] w fun e w'=>e=.returned (.tuple #[.int .i64 (sg1I s),.bool (sg1B s)])∧w'=w:=by
 unfold sg1I sg1B
 cases h0:isB s [43] with
 | true =>
  have g:s.toList=[43]:=by simpa [isB] using h0
  simp only [if_true,Bool.true_or]
  clear h0
  go_enter Tryz.func89,Tryz.ntmps89
  go_wp2_with fail
  go_ret2
  exact ⟨rfl,rfl⟩
 | false =>
  have g:(s.toList == [43])=false:=h0
  cases h1:isB s [45] with
  | true =>
   have g1:s.toList=[45]:=by simpa [isB] using h1
   simp only [if_true,Bool.true_or,Bool.or_true,Bool.false_eq_true,if_false]
   clear h0 h1 g
   go_enter Tryz.func89,Tryz.ntmps89
   go_wp2_with fail
   go_ret2
   exact ⟨rfl,rfl⟩
  | false =>
   have g1:(s.toList == [45])=false:=h1
   cases h2:isB s [126] with
   | true =>
    have g2:s.toList=[126]:=by simpa [isB] using h2
    simp only [Bool.or_true,Bool.false_eq_true,if_false]
    clear h0 h1 h2 g g1
    go_enter Tryz.func89,Tryz.ntmps89
    go_wp2_with fail
    go_ret2
    exact ⟨rfl,rfl⟩
   | false =>
    have g2:(s.toList == [126])=false:=h2
    simp only [Bool.or_self,Bool.false_eq_true,if_false]
    clear h0 h1 h2
    go_enter Tryz.func89,Tryz.ntmps89
    go_wp2_with fail
    go_ret2
    exact ⟨rfl,rfl⟩
def s3 (a:UInt8):Bool:=decide (a=45) || decide (a=126) || decide (a=43)
def sgL:List UInt8→Bool
 | []=>false
 | [a]=>s3 a
 | [_,_]=>false
 | a :: b :: _ :: _=>decide (b=61) && s3 a
def sg1L:List UInt8→Bool
 | [a]=>s3 a
 | _=>false
theorem sgOk_l (x:ByteArray):sgOk x=sgL x.data.toList:=by
 unfold sgOk
 rw [Lib.size_eq x]
 generalize x.data.toList=l
 rcases l with _ | ⟨a,_ | ⟨b,_ | ⟨c,r⟩⟩⟩
 ·rfl
 ·simp [sgL,s3]
 ·simp [sgL]
 ·by_cases h:b=61
  ·simp [sgL,s3,h]
  ·simp [sgL,h]
theorem isB_l (x:ByteArray) (l:List UInt8):isB x l=decide (x.data.toList=l):=by
 unfold isB
 rw [ByteArray.toList_eq]
 by_cases h:x.data.toList=l
 ·rw [decide_eq_true h,h];simp
 ·rw [decide_eq_false h];simpa using h
theorem sg1_l (x:ByteArray):sg1B x=sg1L x.data.toList:=by
 unfold sg1B
 simp only [isB_l]
 generalize x.data.toList=l
 rcases l with _ | ⟨a,_ | ⟨b,r⟩⟩
 ·rfl
 ·simp only [sg1L,s3,List.cons.injEq,and_true]
  by_cases h1:a=43
  ·subst h1;rfl
  ·by_cases h2:a=45
   ·subst h2;rfl
   ·by_cases h3:a=126
    ·subst h3;rfl
    ·simp [h1,h2,h3]
 ·simp [sg1L]
theorem sgI_l {x:ByteArray} (h:sgOk x=true):∃ a r,x.data.toList=a :: r∧sgI x=(if a=43 then 1 else if a=45 then -1 else 0)∧(r=[]∧foS x=noWd∨(∃ c t,r=61 :: c :: t)∧foS x=x.extract 2 x.size):=by
 have hin:sgIn x=true:=by
  unfold sgOk at h
  unfold sgIn
  rw [Bool.and_eq_true] at h
  exact h.1
 have h2:=h
 rw [sgOk_l] at h2
 have hsz:=Lib.size_eq x
 unfold sgI foS
 rw [if_pos hin]
 generalize hl:x.data.toList=l at h2 hsz
 rcases l with _ | ⟨a,_ | ⟨b,_ | ⟨c,r⟩⟩⟩
 ·cases h2
 ·refine ⟨a,[],rfl,?_,Or.inl ⟨rfl,?_⟩⟩
  ·simp only [sgL,s3] at h2
   by_cases h1:a=43
   ·subst h1;rfl
   ·by_cases h3:a=45
    ·subst h3;rfl
    ·by_cases h4:a=126
     ·subst h4;rfl
     ·simp [h1,h3,h4] at h2
  ·rw [if_neg]
   simp at hsz
   omega
 ·cases h2
 ·simp only [sgL,Bool.and_eq_true,decide_eq_true_eq] at h2
  obtain ⟨rfl,h2⟩:=h2
  refine ⟨a,61 :: c :: r,rfl,?_,Or.inr ⟨⟨c,r,rfl⟩,?_⟩⟩
  ·simp only [s3] at h2
   by_cases h1:a=43
   ·subst h1;rfl
   ·by_cases h3:a=45
    ·subst h3;rfl
    ·by_cases h4:a=126
     ·subst h4;rfl
     ·simp [h1,h3,h4] at h2
  ·rw [if_pos ⟨hin,by simp at hsz;omega⟩]
theorem sg1I_l {x:ByteArray} {a:UInt8} (h:x.data.toList=[a]):sg1I x=if a=43 then 1 else if a=45 then -1 else 0:=by
 unfold sg1I
 simp only [isB_l,h,List.cons.injEq,and_true,decide_eq_true_eq]
theorem tail_none {x:ByteArray} (h:Lib.indexByte x.data.toList 61 = -1):sg1B x=sgOk x∧(sgOk x=true→sg1I x=sgI x∧(⟨#[]⟩:ByteArray)=foS x):=by
 refine ⟨?_,fun hs=>?_⟩
 ·rw [sgOk_l,sg1_l]
  have hn:=Lib.indexByte_none h
  generalize x.data.toList=l at hn
  rcases l with _ | ⟨a,_ | ⟨b,_ | ⟨c,r⟩⟩⟩
  ·rfl
  ·rfl
  ·rfl
  ·have:b≠61:=fun e=>hn 1 (by rw [e];rfl)
   simp [sg1L,sgL,this]
 ·obtain ⟨a,r,hl,hI,⟨rfl,hf⟩ | ⟨⟨c,t,rfl⟩,-⟩⟩:=sgI_l hs
  ·exact ⟨(sg1I_l hl).trans hI.symm,hf.symm⟩
  ·exact absurd (by rw [hl];rfl) (Lib.indexByte_none h 1)
theorem tail_end {x:ByteArray} {i:Nat} (h:Lib.indexByte x.data.toList 61=i) (he:i+1=x.size):sgOk x=false:=by
 obtain ⟨h1,h2⟩:=Lib.indexByte_some h
 rw [Lib.size_eq] at he
 rw [sgOk_l]
 generalize x.data.toList=l at h1 h2 he
 rcases l with _ | ⟨a,_ | ⟨b,_ | ⟨c,r⟩⟩⟩
 ·rfl
 ·have:i=0:=by simpa using he
  subst this
  have:a=61:=by simpa using h1
  subst this
  rfl
 ·rfl
 ·have h3:i≠1:=by simp at he;omega
  have:b≠61:=fun e=>h2 1 (by simp at he;omega) (by rw [e];rfl)
  simp [sgL,this]
theorem tail_some {x:ByteArray} {i:Nat} (h:Lib.indexByte x.data.toList 61=i) (he:i+1<x.size):sg1B (x.extract 0 i)=sgOk x∧(sgOk x=true→sg1I (x.extract 0 i)=sgI x∧x.extract (i+1) x.size=foS x):=by
 obtain ⟨h1,h2⟩:=Lib.indexByte_some h
 have he':=he
 rw [Lib.size_eq] at he'
 have e0:(x.extract 0 i).data.toList=x.data.toList.take i:=Lib.extract_from_zero x i
 refine ⟨?_,fun hs=>?_⟩
 ·rw [sgOk_l,sg1_l,e0]
  generalize x.data.toList=l at h1 h2 he'
  rcases l with _ | ⟨a,_ | ⟨b,_ | ⟨c,r⟩⟩⟩
  ·simp at he'
  ·simp at he'
  ·have:i=0:=by simp at he';omega
   subst this
   rfl
  ·rcases i with _ | _ | i
   ·have:a=61:=by simpa using h1
    subst this
    simp [sg1L,sgL,s3]
   ·have:b=61:=by simpa using h1
    subst this
    simp [sg1L,sgL]
   ·have:b≠61:=fun e=>h2 1 (by omega) (by rw [e];rfl)
    simp [sg1L,sgL,this]
 ·obtain ⟨a,r,hl,hI,⟨rfl,hf⟩ | ⟨⟨c,t,rfl⟩,hf⟩⟩:=sgI_l hs
  ·rw [hl] at he';simp at he'
  ·have hi:i=1:=by
    rcases i with _ | _ | i
    ·rw [hl] at h1
     have e:a=61:=by simpa using h1
     rw [sgOk_l,hl,e] at hs
     simp [sgL,s3] at hs
    ·rfl
    ·exact absurd (by rw [hl];rfl) (h2 1 (by omega))
   subst hi
   rw [hl] at e0
   exact ⟨(sg1I_l e0).trans hI.symm,hf.symm⟩
theorem stail_any (x:ByteArray) (w:World) (hs:x.size≤1048576):Calls Tryz.prog 60 #[.string x] w fun e w'=>(∃ a f,e=.returned (.tuple #[.int .i64 a,.string f,.bool (sgOk x)])∧(sgOk x=true→a=sgI x∧f=foS x))∧Below w.heap.size w w':=by
 have hc:=scut_any x 61 w (by omega)
 have hge:=Lib.indexByte_ge x.data.toList 61
 by_cases h:Lib.indexByte x.data.toList 61 = -1
 ·rw [cutV_none h] at hc
  obtain ⟨h1,h2⟩:=tail_none h
  have H1:=hid_of h1
  have H2:=hid_of h2
  have hg:=ssign_any x
  rw [h1] at hg
  clear h hge h1 h2 hs
  go_enter Tryz.func60,Tryz.ntmps60
  go_wp2_with fail
  refine hc.mono ?_
  rintro e w1 ⟨rfl,hb⟩
  go_wp2_with fail
  refine (hg _).mono ?_
  rintro e w2 ⟨rfl,rfl⟩
  go_wp2_with fail
  go_ret3
  exact ⟨⟨_,_,rfl,H2.out⟩,hb⟩
 ·obtain ⟨i,hI⟩:∃ i:Nat,Lib.indexByte x.data.toList 61=i:=⟨(Lib.indexByte x.data.toList 61).toNat,by omega⟩
  have hlt:=index_lt hI
  rw [cutV_some hI] at hc
  have hsz:(x.extract (i+1) x.size).size=x.size-(i+1):=by rw [ByteArray.size_extract];omega
  by_cases he:i+1=x.size
  ·have hf:x.extract (i+1) x.size=⟨#[]⟩:=by
    refine ByteArray.ext (Array.eq_empty_of_size_eq_zero ?_)
    show (x.extract (i+1) x.size).size=0
    omega
   rw [hf] at hc
   rw [tail_end hI he]
   generalize x.extract 0 i=y at hc
   clear h hge hI hlt hsz he hf hs
   go_enter Tryz.func60,Tryz.ntmps60
   go_wp2_with fail
   refine hc.mono ?_
   rintro e w1 ⟨rfl,hb⟩
   go_wp2_with fail
   go_ret3
   exact ⟨⟨_,_,rfl,fun h=>by cases h⟩,hb⟩
  ·obtain ⟨h1,h2⟩:=tail_some hI (by omega)
   have H2:=hid_of h2
   have hg:=ssign_any (x.extract 0 i)
   rw [h1] at hg
   have hne:(x.extract (i+1) x.size).toList.isEmpty=false:=ne_empty7 (by omega)
   clear h hge hI hlt h1 h2 hs he hsz
   generalize x.extract 0 i=y at hc hg H2
   generalize x.extract (i+1) x.size=z at hc hne H2
   go_enter Tryz.func60,Tryz.ntmps60
   go_wp2_with fail
   refine hc.mono ?_
   rintro e w1 ⟨rfl,hb⟩
   go_wp2_with fail
   refine (hg _).mono ?_
   rintro e w2 ⟨rfl,rfl⟩
   go_wp2_with fail
   go_ret3
   exact ⟨⟨_,_,rfl,H2.out⟩,hb⟩
end Go.Proofs.YtpoklbfffgpbiaaGreatDoor
