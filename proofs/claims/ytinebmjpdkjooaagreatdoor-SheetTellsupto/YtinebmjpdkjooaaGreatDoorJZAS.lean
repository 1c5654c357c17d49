/-
  What package sheet's small readers of words answer, called in whatever memory: numbers, parents.
-/
import Derived.Test.YtinebmjpdkjooaaGreatDoorShelfC
import Derived.Shelf.Strconv.ErrVarAll
import Derived.Shelf.Strconv.AtoiAll
import Derived.Lib.AtoiAllCases
import Derived.Test.YtinebmjpdkjooaaGreatDoorJZAR
namespace Go.Proofs.YtinebmjpdkjooaaGreatDoor
open Go.ChangeShapes Go.WideShapes Go.ChangeAt Go.RowKit
set_option maxRecDepth 20000
theorem cell_laterS {w w':World} {a:Addr} {v:Value} (h:w.cell? a=some v) (hb:Below w.heap.size w w'):w'.cell? a=some v:=by
 have hlt:a.block<w.heap.size:=by
  rcases Nat.lt_or_ge a.block w.heap.size with h' | h'
  ·exact h'
  ·simp [World.cell?,Array.getElem?_eq_none h'] at h
 exact (hb.cell (p:=a) hlt).trans h
theorem var_laterS {w w':World} {name:String} {cs:Array Value} (h:w.var? Tryz.prog name=some cs) (hb:Below w.heap.size w w'):w'.var? Tryz.prog name=some cs:=by
 unfold World.var? at *
 cases hg:(Tryz.prog).globalNamed name with
 | none=>simp [hg] at h
 | some g =>
  simp only [hg,Option.bind_some] at h ⊢
  have hlt:g<w.heap.size:=by
   rcases Nat.lt_or_ge g w.heap.size with h' | h'
   ·exact h'
   ·rw [Array.getElem?_eq_none h'] at h;simp at h
  rw [hb.block g hlt]
  exact h
def EnvS (w : World) : Prop := TabE w ∧ (∃ tp p, w.var? Tryz.prog "strconv.ErrSyntax" = some #[.iface tp p]) ∧ (∃ tp p, w.var? Tryz.prog "strconv.ErrRange" = some #[.iface tp p]) ∧ ∃ m, w.cell? ⟨2, 0, none⟩ = some (.int .i64 m)
theorem EnvS.later {w w':World} (h:EnvS w) (hb:Below w.heap.size w w'):EnvS w':=by
 obtain ⟨h1,⟨t1,p1,h2⟩,⟨t2,p2,h3⟩,m,h4⟩:=h
 exact ⟨h1.later hb,⟨t1,p1,var_laterS h2 hb⟩,⟨t2,p2,var_laterS h3 hb⟩,m,cell_laterS h4 hb⟩
theorem digits_lt:∀ (k u:Nat),(Lib.decDigits u).length≤k→u<10 ^ k
 | 0,u,h=>absurd (List.length_eq_zero_iff.1 (Nat.le_zero.1 h)) (decDigits_ne u)
 | k+1,u,h=>by
  by_cases hu:u<10
  ·exact Nat.lt_of_lt_of_le hu (by rw [Nat.pow_succ];have:1≤10 ^ k:=Nat.one_le_pow _ _ (by omega);omega)
  ·rw [Lib.decDigits,dif_neg hu,List.length_append,List.length_singleton] at h
   have:=digits_lt k (u / 10) (by omega)
   rw [Nat.pow_succ]
   omega
theorem num7_end (l:List UInt8):numK 7 l=match Lib.atoiAll l with
  | .ok v=>if -10000000<v∧v<10000000∧Lib.itoa v=l then some v else none
  | _=>none:=by
 by_cases hl:l.length≤18
 ·rw [Lib.atoiAll_short l hl]
  cases hn:Lib.atoi l with
  | none =>
   show numK 7 l=none
   unfold numK
   rw [numP_noatoi l hn]
   split <;> rfl
  | some v =>
   show numK 7 l=if _ then _ else _
   by_cases hq:Lib.itoa v=l
   ·have ht:Lib.trimPrefix l [45]=Lib.decDigits v.natAbs:=by rw [←hq,trim_itoa]
    by_cases hv : -10000000<v∧v<10000000
    ·rw [if_pos ⟨hv.1,hv.2,hq⟩]
     have h7:(Lib.trimPrefix l [45]).length≤7:=by rw [ht];exact nDigits_le _ 7 (by omega) (by omega)
     rw [numK_in h7]
     exact numP_if l (by omega) v hn hq
    ·rw [if_neg fun h=>hv ⟨h.1,h.2.1⟩]
     refine numK_out ?_
     rw [ht]
     rcases Nat.lt_or_ge 7 (Lib.decDigits v.natAbs).length with h | h
     ·exact h
     ·have:=digits_lt 7 _ h
      omega
   ·rw [if_neg fun h=>hq h.2.2]
    unfold numK
    split
    ·unfold numP
     split
     ·rw [hn]
      simp only [if_neg hq]
     ·rfl
    ·rfl
 ·have h1:7<(Lib.trimPrefix l [45]).length:=by
   unfold Lib.trimPrefix
   split
   ·simp only [List.length_drop,List.length_singleton];omega
   ·omega
  rw [numK_out h1]
  cases hn:Lib.atoiAll l with
  | «syntax» => rfl
  | range=>rfl
  | ok v =>
   show none=if _ then _ else _
   rw [if_neg]
   rintro ⟨h2,h3,h4⟩
   have ht:Lib.trimPrefix l [45]=Lib.decDigits v.natAbs:=by rw [←h4,trim_itoa]
   have:=nDigits_le v.natAbs 7 (by omega) (by omega)
   rw [ht] at h1
   omega
theorem snum_bad (s:ByteArray) (hn:numK 7 s.data.toList=none) (w:World) (a:Int)
  (h:Calls Tryz.prog 148 #[.string s] w fun e w'=>(∃ N,e=.returned (.tuple #[.int .i64 a,.iface 248 (.pointer (some ⟨N,0,none⟩))]))∧Below w.heap.size w w') :
  Calls Tryz.prog 110 #[.string s] w fun e w'=>e=.returned (.tuple #[.int .i64 (intI s),.bool (intB s)])∧Below w.heap.size w w':=by
 have hI:intI s=0:=by unfold intI;rw [hn];rfl
 have hB:intB s=false:=by unfold intB;rw [hn];rfl
 rw [hI,hB]
 clear hI hB hn
 go_enter Tryz.func110,Tryz.ntmps110
 go_wp2_with fail
 refine h.mono ?_
 rintro e w1 ⟨⟨N,rfl⟩,hb⟩
 go_wp2_with fail
 go_ret2
 exact ⟨rfl,hb⟩
theorem snum_good (s:ByteArray) (v:Int) (hn:Lib.atoiAll s.data.toList=.ok v) (w:World) (hE:TabE w) (hs:s.size≤1048576) :
  Calls Tryz.prog 110 #[.string s] w fun e w'=>e=.returned (.tuple #[.int .i64 (intI s),.bool (intB s)])∧Below w.heap.size w w':=by
 have h7:=num7_end s.data.toList
 rw [hn] at h7
 obtain ⟨v1,v2⟩:=Lib.atoiAll_bounds hn
 have ha:=(Any.strconv_Atoi_ok Tryz.laysC172 s (by omega) v hn w).mono (R':=fun e w'=>e=.returned (.tuple #[.int .i64 v,.nilIface])∧Below w.heap.size w w') fun e w' ⟨he,hw⟩=>⟨he,by
  rcases hw with rfl | ⟨t,hw⟩
  ·exact Below.refl _ _
  ·rw [hw];exact Lib.bytesWorld_below _ _ _⟩
 by_cases h1:v≤-10000000
 ·rw [show (match (Lib.NumEnd.ok v:Lib.NumEnd Int) with | .ok v=>if -10000000<v∧v<10000000∧Lib.itoa v=s.data.toList then some v else none | _=>none)=none from if_neg fun h=>by omega] at h7
  have hI:intI s=0:=by unfold intI;rw [h7];rfl
  have hB:intB s=false:=by unfold intB;rw [h7];rfl
  rw [hI,hB]
  clear hI hB hn h7
  go_enter Tryz.func110,Tryz.ntmps110
  go_wp2_with fail
  refine ha.mono ?_
  rintro e w1 ⟨rfl,hb⟩
  go_wp2_with fail
  go_ret2
  exact ⟨rfl,hb⟩
 ·by_cases h2:10000000≤v
  ·rw [show (match (Lib.NumEnd.ok v:Lib.NumEnd Int) with | .ok v=>if -10000000<v∧v<10000000∧Lib.itoa v=s.data.toList then some v else none | _=>none)=none from if_neg fun h=>by omega] at h7
   have hI:intI s=0:=by unfold intI;rw [h7];rfl
   have hB:intB s=false:=by unfold intB;rw [h7];rfl
   rw [hI,hB]
   clear hI hB hn h7
   go_enter Tryz.func110,Tryz.ntmps110
   go_wp2_with fail
   refine ha.mono ?_
   rintro e w1 ⟨rfl,hb⟩
   go_wp2_with fail
   go_ret2
   exact ⟨rfl,hb⟩
  ·obtain ⟨q,hq⟩:∃ q,(Lib.itoa v == s.toList)=q:=⟨_,rfl⟩
   have hI:intI s=if q=true then v else 0:=by
    unfold intI
    rw [h7]
    subst hq
    rw [ByteArray.toList_eq]
    by_cases h:Lib.itoa v=s.data.toList
    ·rw [show (match (Lib.NumEnd.ok v:Lib.NumEnd Int) with | .ok v=>if -10000000<v∧v<10000000∧Lib.itoa v=s.data.toList then some v else none | _=>none)=some v from if_pos ⟨by omega,by omega,h⟩,if_pos (by simpa using h)];rfl
    ·rw [show (match (Lib.NumEnd.ok v:Lib.NumEnd Int) with | .ok v=>if -10000000<v∧v<10000000∧Lib.itoa v=s.data.toList then some v else none | _=>none)=none from if_neg fun h'=>h h'.2.2,if_neg (by simpa using h)];rfl
   have hB:intB s=q:=by
    unfold intB
    rw [h7]
    subst hq
    rw [ByteArray.toList_eq]
    by_cases h:Lib.itoa v=s.data.toList
    ·rw [show (match (Lib.NumEnd.ok v:Lib.NumEnd Int) with | .ok v=>if -10000000<v∧v<10000000∧Lib.itoa v=s.data.toList then some v else none | _=>none)=some v from if_pos ⟨by omega,by omega,h⟩]
     exact (beq_iff_eq.2 h).symm
    ·rw [show (match (Lib.NumEnd.ok v:Lib.NumEnd Int) with | .ok v=>if -10000000<v∧v<10000000∧Lib.itoa v=s.data.toList then some v else none | _=>none)=none from if_neg fun h'=>h h'.2.2]
     exact (beq_eq_false_iff_ne.2 h).symm
   rw [hI,hB]
   have hi:=fun w hw=>itoaF v w v1 v2 hw
   clear hI hB hn h7
   generalize Lib.itoa v=t at hi hq
   cases q
   all_goals
    go_enter Tryz.func110,Tryz.ntmps110
    go_wp2_with fail
    refine ha.mono ?_
    rintro e w2 ⟨rfl,hb⟩
    have hw2:=hE.later hb
    go_wp2_with fail
    refine (hi _ hw2).mono ?_
    rintro e w3 ⟨rfl,hb3⟩
    have hB:=onB hb hb3
    go_wp2_with fail
    go_ret2
    exact ⟨rfl,hB⟩
theorem snum_any (s:ByteArray) (w:World) (hE:EnvS w) (hs:s.size≤1048576) :
  Calls Tryz.prog 110 #[.string s] w fun e w'=>e=.returned (.tuple #[.int .i64 (intI s),.bool (intB s)])∧Below w.heap.size w w':=by
 obtain ⟨hT,⟨t1,p1,h1⟩,⟨t2,p2,h2⟩,-⟩:=hE
 cases hn:Lib.atoiAll s.data.toList with
 | ok v=>exact snum_good s v hn w hT hs
 | «syntax» =>
  exact snum_bad s (by rw [num7_end,hn]) w 0 ((Any.strconv_Atoi_syntax_var Tryz.laysC172 s (by omega) hn t1 p1 w h1).mono fun e w' ⟨N,he,_,_,hb⟩=>⟨⟨N,he⟩,hb⟩)
 | range =>
  exact snum_bad s (by rw [num7_end,hn]) w _ ((Any.strconv_Atoi_range_var Tryz.laysC172 s (by omega) hn t2 p2 w h2).mono fun e w' ⟨N,he,_,_,hb⟩=>⟨⟨N,he⟩,hb⟩)
def cntB (s:ByteArray):Bool:=intB s && decide (0≤intI s)
def cntI (s:ByteArray):Int:=if cntB s=true then intI s else 0
theorem scount_any (s:ByteArray) (w:World) (hE:EnvS w) (hs:s.size≤1048576) :
  Calls Tryz.prog 105 #[.string s] w fun e w'=>e=.returned (.tuple #[.int .i64 (cntI s),.bool (cntB s)])∧Below w.heap.size w w':=by
 have h:=snum_any s w hE hs
 unfold cntI cntB
 cases hb:intB s with
 | false =>
  rw [hb] at h
  simp only [Bool.false_and,Bool.false_eq_true,if_false]
  generalize intI s=x at h
  clear hE hs hb
  go_enter Tryz.func105,Tryz.ntmps105
  go_wp2_with fail
  refine h.mono ?_
  rintro e w1 ⟨rfl,hb⟩
  go_wp2_with fail
  go_ret2
  exact ⟨rfl,hb⟩
 | true =>
  rw [hb] at h
  generalize intI s=x at h
  clear hE hs hb
  by_cases hx:0≤x
  ·rw [decide_eq_true hx]
   simp only [Bool.true_and,if_true]
   have hx' : ¬ x<0:=by omega
   clear hx
   go_enter Tryz.func105,Tryz.ntmps105
   go_wp2_with fail
   refine h.mono ?_
   rintro e w1 ⟨rfl,hb⟩
   go_wp2_with fail
   go_ret2
   exact ⟨rfl,hb⟩
  ·rw [decide_eq_false hx]
   simp only [Bool.true_and,Bool.false_eq_true,if_false]
   have hx':x<0:=by omega
   clear hx
   go_enter Tryz.func105,Tryz.ntmps105
   go_wp2_with fail
   refine h.mono ?_
   rintro e w1 ⟨rfl,hb⟩
   go_wp2_with fail
   go_ret2
   exact ⟨rfl,hb⟩
def parI (s:ByteArray):Int:=if isB s [45]=true then -1 else cntI s
theorem par_ok {s:ByteArray} (h:paOk s=true):parI s=paI s:=by
 unfold parI paI cntI cntB
 unfold paOk at h
 split
 ·rfl
 ·rename_i h1
  have h2:isB s [45]=false:=by simpa using h1
  rw [h2,Bool.false_or] at h
  rw [if_pos h]
theorem sparent_any (s:ByteArray) (w:World) (hE:EnvS w) (hs:s.size≤1048576) :
  Calls Tryz.prog 108 #[.string s] w fun e w'=>e=.returned (.tuple #[.int .i64 (parI s),.bool (paOk s)])∧Below w.heap.size w w':=by
 have h:=scount_any s w hE hs
 have e1:paOk s=(isB s [45] || cntB s):=rfl
 rw [e1]
 unfold parI
 generalize cntB s=b at h
 generalize cntI s=x at h
 cases h0:isB s [45] with
 | true =>
  have g:s.toList=[45]:=by simpa [isB] using h0
  simp only [if_true,Bool.true_or]
  clear hE hs h h0 e1
  go_enter Tryz.func108,Tryz.ntmps108
  go_wp2_with fail
  go_ret2
  exact ⟨rfl,Below.refl _ _⟩
 | false =>
  have g:(s.toList == [45])=false:=h0
  simp only [Bool.false_eq_true,if_false,Bool.false_or]
  clear hE hs h0 e1
  go_enter Tryz.func108,Tryz.ntmps108
  go_wp2_with fail
  refine h.mono ?_
  rintro e w1 ⟨rfl,hb⟩
  go_wp2_with fail
  go_ret2
  exact ⟨rfl,hb⟩
end Go.Proofs.YtinebmjpdkjooaaGreatDoor
namespace Go.Proofs.YtinebmjpdkjooaaGreatDoor
def leafT (w:ByteArray):Tre:=if 97≤byteN w 0∧byteN w 0≤122 then .ref w else .num (numW w)
theorem leaf_opnd (w:ByteArray) (k:Nat):post (leafT w) k=[opndN w]∧sizT (leafT w)=1:=by
 unfold leafT opndN
 split
 ·exact ⟨rfl,rfl⟩
 ·exact ⟨rfl,rfl⟩
inductive Spl:Nat→Tre→List ByteArray→Prop
 | word (w:ByteArray):48≤byteN w 0→Spl 3 (leafT w) [w]
 | brk (t:Tre) (ws:List ByteArray):Spl 1 t ws→Spl 3 t ([⟨#[40]⟩] ++ ws ++ [⟨#[41]⟩])
 | up (k:Nat) (t:Tre) (ws:List ByteArray):1≤k→k≤2→Spl (k+1) t ws→Spl k t ws
 | bin (k:Nat) (o:Int) (a c:Tre) (wa wc:List ByteArray):3≤o→o≤6→bindN o=(k:Int)→Spl k a wa→Spl (k+1) c wc→Spl k (.bin o a c) (wa ++ [sgnT o] ++ wc)
theorem spl_take {k:Nat} {t:Tre} {ws:List ByteArray} (h:Spl k t ws):∀ (b:Bld),Low b (k:Int)→∀ least:Int,least≤k→settleB least (ws.foldl takeB b)=settleB least (pushT t b):=by
 induction h with
 | word w hw =>
  intro b _ least _
  show settleB least (takeB b w)=_
  rw [take_is_opd hw]
  obtain ⟨e1,e2⟩:=leaf_opnd w b.nodes.length
  unfold pushT addB
  rw [e1,e2]
  rfl
 | brk t ws _ ih =>
  intro b _ least _
  have:=take_brk (l:=ws) (t:=t) (b:=b) (ih _ (low_open _ _ _ _) 0 (by omega))
  rw [brkL,if_pos rfl] at this
  rw [this]
 | up k t ws h1 h2 _ ih =>
  intro b hl least hle
  exact ih b (hl.up (by omega)) least (by omega)
 | bin k o a c wa wc h1 h2 h3 _ _ iha ihc =>
  intro b hl least hle
  have e1:settleB (bindN o) (wa.foldl takeB b)=pushT a b:=by
   rw [h3,iha b hl k (Int.le_refl _)]
   exact settle_low (low_push a hl)
  rw [List.foldl_append,List.foldl_append]
  show settleB least (wc.foldl takeB (takeB (wa.foldl takeB b) (sgnT o)))=_
  rw [take_sign _ ⟨h1,h2⟩,e1,ihc ⟨(pushT a b).nodes,(pushT a b).ready,(pushT a b).waiting ++ [o]⟩ (Or.inr ⟨_,o,rfl,Or.inr (by rw [h3];omega)⟩) least (by omega)]
  show settleB least ⟨(pushT c ⟨(pushT a b).nodes,(pushT a b).ready,b.waiting ++ [o]⟩).nodes,(pushT c ⟨(pushT a b).nodes,(pushT a b).ready,b.waiting ++ [o]⟩).ready,b.waiting ++ [o]⟩=_
  rw [settle_pop (by omega) (by rw [h3];exact hle),join_push]
def Rds (s:ByteArray) (k a a':Nat) (t:Tre):Prop:=a<a'∧a'≤s.size∧∃ ws,Spl k t ws∧∀ r:Rd Bld,r.at'=a→toEnd s takeB false r=toEnd s takeB true ⟨a',r.opn,ws.foldl takeB r.st⟩
def Fls (s:ByteArray) (a a':Nat):Prop:=a≤a'∧a'≤s.size∧∀ r:Rd Bld,r.at'=a→∃ o st,toEnd s takeB false r=(⟨a',o,st⟩,false)
def NoSg (s:ByteArray) (k a:Nat):Prop:=a<s.size→signI (nextB s a)<0∨bindN (3+signI (nextB s a))<(k:Int)
section
variable {s:ByteArray} {k a a1 a2 a':Nat} {t u:Tre}
theorem word_first {n:Nat} (ha:a<s.size) (hn:1≤n):byteN (s.extract a (a+n)) 0=nextB s a:=by
 rw [byteN_ext (by omega),nextB,if_neg (by omega),Nat.add_zero]
theorem rds_dig (ha:a≤s.size) (h:digB (nextB s a)=true):Rds s 3 a (a+digitsN s a) (leafT (s.extract a (a+digitsN s a))):=by
 obtain ⟨h1,h2⟩:=dig_pos ha h
 obtain ⟨h3,h4⟩:=dig_word (o:=0) ha h
 refine ⟨by omega,h2,[s.extract a (a+digitsN s a)],Spl.word _ ?_,fun r hr=>?_⟩
 ·have hd:=word_first (by omega:a<s.size) h1
  rw [hd]
  unfold digB at h
  simp at h
  omega
 ·have he:=end_dig (tk:=takeB) (r:=r) (by rw [hr];exact ha) (by rw [hr];exact h)
  rw [he,wordR,hr]
  rfl
theorem rds_let (ha:a≤s.size) (h:letB (nextB s a)=true):Rds s 3 a (a+leadN letB (s.extract a s.size)) (leafT (s.extract a (a+leadN letB (s.extract a s.size)))):=by
 obtain ⟨h1,h2⟩:=let_pos ha h
 refine ⟨by omega,h2,[s.extract a (a+leadN letB (s.extract a s.size))],Spl.word _ ?_,fun r hr=>?_⟩
 ·have hd:=word_first (by omega:a<s.size) h1
  rw [hd]
  unfold letB at h
  simp at h
  omega
 ·have he:=end_let (tk:=takeB) (r:=r) (by rw [hr];exact ha) (by rw [hr];exact h)
  rw [he,wordR,hr]
  rfl
theorem byte_one (ha:a<s.size) (c:UInt8) (h:nextB s a=(c.toNat:Int)):s.extract a (a+1)=⟨#[c]⟩:=by
 have hz:=slice_ok (s:=s) (a:=a) (n:=1) (by omega)
 have hb:=word_first (n:=1) ha (by omega)
 rw [h] at hb
 apply ByteArray.ext
 apply Array.ext
 ·exact hz
 ·intro i h1 h2
  have hi:i=0:=by simp at h2;omega
  subst hi
  have e:byteN (s.extract a (a+1)) 0=(((s.extract a (a+1)).data[0]'h1).toNat:Int):=by
   unfold byteN
   rw [List.getD,List.getElem?_eq_getElem (by rw [Array.length_toList];exact h1)]
   rfl
  rw [e] at hb
  have:((s.extract a (a+1)).data[0]'h1).toNat=c.toNat:=by omega
  simpa using UInt8.toNat_inj.1 this
theorem rds_brk (ha:a≤s.size) (h40:nextB s a=40) (h:Rds s 1 (a+1) a1 t) (h41:nextB s a1=41):Rds s 3 a (a1+1) t:=by
 obtain ⟨h1,h2,ws,h3,h4⟩:=h
 have hlt:a<s.size:=next_zero (by rw [h40];decide) ha
 have hlt1:a1<s.size:=next_zero (by rw [h41];decide) h2
 refine ⟨by omega,by omega,_,Spl.brk t ws h3,fun r hr=>?_⟩
 have e1:=end_open (tk:=takeB) (r:=r) (by rw [hr];exact ha) (by rw [hr];exact h40)
 have e2:=h4 (wordR s takeB 1 ⟨r.at',r.opn+1,r.st⟩) (by rw [wordR,hr])
 have e3:=end_close (tk:=takeB) (r:=⟨a1,(wordR s takeB 1 ⟨r.at',r.opn+1,r.st⟩).opn,ws.foldl takeB (wordR s takeB 1 ⟨r.at',r.opn+1,r.st⟩).st⟩) h2 ⟨by show 0<r.opn+1;omega,h41⟩
 rw [e1,e2,e3]
 unfold wordR
 simp only
 rw [hr,byte_one hlt 40 (by rw [h40];rfl),byte_one hlt1 41 (by rw [h41];rfl),List.foldl_append,List.foldl_append]
 rfl
theorem rds_up (h1:1≤k) (h2:k≤2) (h:Rds s (k+1) a a' t):Rds s k a a' t:=by
 obtain ⟨g1,g2,ws,g3,g4⟩:=h
 exact ⟨g1,g2,ws,Spl.up k t ws h1 h2 g3,g4⟩
theorem sgn_four {c:Int} (h : ¬ signI c<0):(c=43∧signI c=0)∨(c=45∧signI c=1)∨(c=42∧signI c=2)∨(c=47∧signI c=3):=by
 unfold signI at *
 by_cases h1:c=43
 ·left;exact ⟨h1,by rw [if_pos h1]⟩
 by_cases h2:c=45
 ·right;left;exact ⟨h2,by rw [if_neg h1,if_pos h2]⟩
 by_cases h3:c=42
 ·right;right;left;exact ⟨h3,by rw [if_neg h1,if_neg h2,if_pos h3]⟩
 by_cases h4:c=47
 ·right;right;right;exact ⟨h4,by rw [if_neg h1,if_neg h2,if_neg h3,if_pos h4]⟩
 ·rw [if_neg h1,if_neg h2,if_neg h3,if_neg h4] at h;omega
theorem sign_word (hlt:a<s.size) (h : ¬ signI (nextB s a)<0):s.extract a (a+1)=sgnT (3+signI (nextB s a))∧3≤3+signI (nextB s a)∧3+signI (nextB s a)≤6∧nextB s a≠41:=by
 rcases sgn_four h with ⟨e,e2⟩ | ⟨e,e2⟩ | ⟨e,e2⟩ | ⟨e,e2⟩
 ·rw [e2,byte_one hlt 43 (by rw [e];rfl),e];exact ⟨rfl,by omega,by omega,by omega⟩
 ·rw [e2,byte_one hlt 45 (by rw [e];rfl),e];exact ⟨rfl,by omega,by omega,by omega⟩
 ·rw [e2,byte_one hlt 42 (by rw [e];rfl),e];exact ⟨rfl,by omega,by omega,by omega⟩
 ·rw [e2,byte_one hlt 47 (by rw [e];rfl),e];exact ⟨rfl,by omega,by omega,by omega⟩
theorem rds_bin (h:Rds s k a a1 t) (hlt:a1<s.size) (hs : ¬ signI (nextB s a1)<0) (hk:bindN (3+signI (nextB s a1))=(k:Int)) (h2:Rds s (k+1) (a1+1) a2 u):Rds s k a a2 (.bin (3+signI (nextB s a1)) t u):=by
 obtain ⟨g1,g2,ws,g3,g4⟩:=h
 obtain ⟨f1,f2,vs,f3,f4⟩:=h2
 obtain ⟨w1,w2,w3,w4⟩:=sign_word hlt hs
 refine ⟨by omega,f2,_,Spl.bin k _ t u ws vs w2 w3 hk g3 f3,fun r hr=>?_⟩
 have e2:=end_sign (tk:=takeB) (r:=⟨a1,r.opn,ws.foldl takeB r.st⟩) (fun e=>w4 e.2) hlt hs
 have e3:=f4 (wordR s takeB 1 ⟨a1,r.opn,ws.foldl takeB r.st⟩) rfl
 rw [g4 r hr,e2,e3]
 unfold wordR
 simp only
 rw [w1,List.foldl_append,List.foldl_append]
 rfl
/-! where it goes wrong -/
theorem fls_none (ha:a≤s.size) (h:nextB s a≠40) (h1:digB (nextB s a)=false) (h2:letB (nextB s a)=false):Fls s a a :=
 ⟨Nat.le_refl _,ha,fun r hr=>⟨r.opn,r.st,by rw [end_none (by rw [hr];exact h) (by rw [hr];exact h1) (by rw [hr];exact h2),←hr]⟩⟩
theorem fls_open (ha:a≤s.size) (h40:nextB s a=40) (h:Fls s (a+1) a'):Fls s a a':=by
 obtain ⟨h1,h2,h3⟩:=h
 refine ⟨by omega,h2,fun r hr=>?_⟩
 rw [end_open (by rw [hr];exact ha) (by rw [hr];exact h40)]
 exact h3 _ (by rw [wordR,hr])
theorem fls_shut (ha:a≤s.size) (h40:nextB s a=40) (h:Rds s 1 (a+1) a1 t) (hn:NoSg s 1 a1) (h41:nextB s a1≠41):Fls s a a1:=by
 obtain ⟨h1,h2,ws,h3,h4⟩:=h
 refine ⟨by omega,h2,fun r hr=>?_⟩
 rw [end_open (tk:=takeB) (r:=r) (by rw [hr];exact ha) (by rw [hr];exact h40),h4 _ (by rw [wordR,hr])]
 by_cases hlt:a1<s.size
 ·have hs:signI (nextB s a1)<0:=by
   rcases hn hlt with h | h
   ·exact h
   ·have:=bindN_ge (3+signI (nextB s a1));omega
  rw [end_bad (fun e=>h41 e.2) hlt hs]
  exact ⟨_,_,rfl⟩
 ·rw [end_end (fun e=>h41 e.2) hlt]
  refine ⟨(wordR s takeB 1 ⟨r.at',r.opn+1,r.st⟩).opn,ws.foldl takeB (wordR s takeB 1 ⟨r.at',r.opn+1,r.st⟩).st,?_⟩
  rw [decide_eq_false (show ¬ (wordR s takeB 1 ⟨r.at',r.opn+1,r.st⟩).opn=0 by show ¬ r.opn+1=0;omega)]
theorem fls_sign (h:Rds s k a a1 t) (hlt:a1<s.size) (hs : ¬ signI (nextB s a1)<0) (h2:Fls s (a1+1) a2):Fls s a a2:=by
 obtain ⟨g1,g2,ws,g3,g4⟩:=h
 obtain ⟨f1,f2,f3⟩:=h2
 obtain ⟨w1,w2,w3,w4⟩:=sign_word hlt hs
 refine ⟨by omega,f2,fun r hr=>?_⟩
 rw [g4 r hr,end_sign (tk:=takeB) (r:=⟨a1,r.opn,ws.foldl takeB r.st⟩) (fun e=>w4 e.2) hlt hs]
 exact f3 _ rfl
end
/-! all of a text -/
section
variable {s:ByteArray} {a':Nat} {t:Tre}
theorem read_all (h:Rds s 1 0 s.size t):(goneB s).2=true∧nodesP s=post t 0:=by
 obtain ⟨h1,h2,ws,h3,h4⟩:=h
 have e:goneB s=(⟨s.size,0,ws.foldl takeB noB⟩,true):=by
  unfold goneB
  rw [all_end_eq (r:=⟨0,0,noB⟩) (Nat.zero_le _),h4 ⟨0,0,noB⟩ rfl,end_end (fun e=>absurd e.1 (Nat.lt_irrefl 0)) (Nat.lt_irrefl _)]
  rfl
 refine ⟨by rw [e],?_⟩
 unfold nodesP
 rw [e]
 show (settleB 0 (ws.foldl takeB noB)).nodes=_
 rw [spl_take h3 noB (Or.inl rfl) 0 (by omega)]
 rw [settle_low (b:=pushT t noB) (Or.inl rfl)]
 show [] ++ post t 0=_
 rfl
theorem read_part (h:Rds s 1 0 a' t) (hn:NoSg s 1 a') (hlt:a'<s.size):(goneB s).2=false∧(goneB s).1.at'=a':=by
 obtain ⟨h1,h2,ws,h3,h4⟩:=h
 have hs:signI (nextB s a')<0:=by
  rcases hn hlt with h | h
  ·exact h
  ·have:=bindN_ge (3+signI (nextB s a'));omega
 have e:goneB s=(⟨a',0,ws.foldl takeB noB⟩,false):=by
  unfold goneB
  rw [all_end_eq (r:=⟨0,0,noB⟩) (Nat.zero_le _),h4 ⟨0,0,noB⟩ rfl,end_bad (fun e=>absurd e.1 (Nat.lt_irrefl 0)) hlt hs]
 rw [e]
 exact ⟨rfl,rfl⟩
theorem read_not (h:Fls s 0 a'):(goneB s).2=false∧(goneB s).1.at'=a':=by
 obtain ⟨h1,h2,h3⟩:=h
 obtain ⟨o,st,e⟩:=h3 ⟨0,0,noB⟩ rfl
 have e2:goneB s=(⟨a',o,st⟩,false):=by
  unfold goneB
  rw [all_end_eq (r:=⟨0,0,noB⟩) (Nat.zero_le _),e]
 rw [e2]
 exact ⟨rfl,rfl⟩
end
end Go.Proofs.YtinebmjpdkjooaaGreatDoor
