/-
  Those who come first in the order are those who get one more: plain facts.
-/
import Derived.Test.YtenlladggdcfnaaGreatDoorJAAR
namespace Go.Proofs.YtenlladggdcfnaaGreatDoor
open Go.Sort
theorem gNat_mem {O:List Nat} {a:Nat} (h:a<O.length):O.getD a 0∈O:=by
 rw [List.getD_eq_getElem?_getD,List.getElem?_eq_getElem h];exact List.getElem_mem h
theorem mem_gNat {O:List Nat} {x:Nat} (h:x∈O):∃ a,a<O.length∧O.getD a 0=x:=by
 obtain ⟨a,ha,e⟩:=List.getElem_of_mem h
 exact ⟨a,ha,by rw [List.getD_eq_getElem?_getD,List.getElem?_eq_getElem ha];exact e⟩
theorem take_mem_iff {O:List Nat} (hn:O.Nodup) {a t:Nat} (ha:a<O.length):(O.take t).contains (O.getD a 0)=decide (a<t):=by
 have e:O.getD a 0=O[a]:=by rw [List.getD_eq_getElem?_getD,List.getElem?_eq_getElem ha];rfl
 rw [e]
 by_cases h:a<t
 ·rw [decide_eq_true h]
  simp only [List.contains_iff_mem]
  exact List.mem_take_iff_getElem.2 ⟨a,by omega,rfl⟩
 ·rw [decide_eq_false h]
  rw [←Bool.not_eq_true]
  simp only [List.contains_iff_mem]
  intro hm
  obtain ⟨b,hb,eb⟩:=List.mem_take_iff_getElem.1 hm
  have:=(List.getElem_inj (xs:=O) (h₀:=by omega) (h₁:=ha) hn).1 eb
  omega
theorem order_pick {k t:Nat} {pr:Nat→Nat→Bool} {O:List Nat} (hp:O.Perm (List.range k)) (hs:∀ a b,a<b→b<k→pr (O.getD a 0) (O.getD b 0)=true) (ht:t≤k) :
  PickOk k pr (fun i=>(O.take t).contains i) t:=by
 have hl:O.length=k:=by rw [hp.length_eq,List.length_range]
 have hn:O.Nodup:=hp.nodup_iff.2 List.nodup_range
 refine ⟨?_,fun i j hi hj h1 h2=>?_⟩
 ·rw [←(hp.filter _).length_eq]
  have e:O.filter (fun i=>(O.take t).contains i)=O.take t:=by
   conv=>lhs;rw [←List.take_append_drop t O]
   rw [List.filter_append]
   have e1:(O.take t).filter (fun i=>(List.take t (List.take t O ++ List.drop t O)).contains i)=O.take t:=by
    rw [List.take_append_drop]
    exact List.filter_eq_self.2 fun x hx=>by simpa using hx
   have e2:(O.drop t).filter (fun i=>(List.take t (List.take t O ++ List.drop t O)).contains i)=[]:=by
    rw [List.take_append_drop]
    refine List.filter_eq_nil_iff.2 fun x hx=>?_
    obtain ⟨a,ha,e⟩:=List.getElem_of_mem hx
    rw [List.length_drop] at ha
    rw [List.getElem_drop] at e
    have:=take_mem_iff hn (a:=t+a) (t:=t) (by omega)
    rw [List.getD_eq_getElem?_getD,List.getElem?_eq_getElem (by omega)] at this
    simp only [Option.getD_some] at this
    rw [e] at this
    rw [this];simp
   rw [e1,e2,List.append_nil]
  rw [e,List.length_take];omega
 ·obtain ⟨a,ha,rfl⟩:=mem_gNat (hp.mem_iff.2 (List.mem_range.2 hi))
  obtain ⟨b,hb,rfl⟩:=mem_gNat (hp.mem_iff.2 (List.mem_range.2 hj))
  have h1':(O.take t).contains (O.getD a 0)=true:=h1
  have h2':(O.take t).contains (O.getD b 0)=false:=h2
  rw [take_mem_iff hn ha] at h1'
  rw [take_mem_iff hn hb] at h2'
  simp only [decide_eq_true_eq,decide_eq_false_iff_not] at h1' h2'
  exact hs a b (by omega) (by omega)
def incL (n:Int) (W:List Int) (O:List Nat) (j:Nat):List Int:=lkO n W fun i=>(O.take j).contains i
theorem incL_len (n:Int) (W:List Int) (O:List Nat) (j:Nat):(incL n W O j).length=W.length:=by simp [incL,lkO]
theorem incL_zero (n:Int) (W:List Int) (O:List Nat):incL n W O 0=(List.range W.length).map (lkQ n W):=List.map_congr_left fun i _=>by simp
theorem incL_at {n:Int} {W:List Int} {O:List Nat} {j i:Nat} (hi:i<W.length):(incL n W O j).getD i 0=lkQ n W i+if (O.take j).contains i then 1 else 0:=by
 unfold incL lkO
 rw [List.getD_eq_getElem?_getD,List.getElem?_map,List.getElem?_range hi];rfl
theorem incL_step {n:Int} {W:List Int} {O:List Nat} {j:Nat} (hp:O.Perm (List.range W.length)) (hj:j<W.length) :
  O.getD j 0<W.length∧(incL n W O j).set (O.getD j 0) ((incL n W O j).getD (O.getD j 0) 0+1)=incL n W O (j+1):=by
 have hl:O.length=W.length:=by rw [hp.length_eq,List.length_range]
 have hn:O.Nodup:=hp.nodup_iff.2 List.nodup_range
 have hx:O.getD j 0<W.length:=List.mem_range.1 (hp.mem_iff.1 (gNat_mem (by omega)))
 refine ⟨hx,List.ext_getElem (by simp [incL_len]) fun i h1 h2=>?_⟩
 rw [List.length_set,incL_len] at h1
 rw [List.getElem_set]
 have at':∀ j,(h:i<(incL n W O j).length)→(incL n W O j)[i]=lkQ n W i+if (O.take j).contains i then 1 else 0:=fun j h=>by
  have:=incL_at (n:=n) (O:=O) (j:=j) h1
  rw [List.getD_eq_getElem?_getD,List.getElem?_eq_getElem h] at this
  exact this
 rw [at' (j+1) h2]
 obtain ⟨a,ha,e⟩:=mem_gNat (hp.mem_iff.2 (List.mem_range.2 h1))
 by_cases hij:O.getD j 0=i
 ·rw [if_pos hij,incL_at hx,←hij,take_mem_iff hn (by omega),take_mem_iff hn (by omega)]
  simp
 ·rw [if_neg hij,at' j (by rw [incL_len];exact h1),←e,take_mem_iff hn ha,take_mem_iff hn ha]
  have:a≠j:=fun h=>hij (by rw [←h,e])
  congr 1
  have e2:decide (a<j)=decide (a<j+1):=by
   by_cases h:a<j
   ·rw [decide_eq_true h,decide_eq_true (by omega)]
   ·rw [decide_eq_false h,decide_eq_false (by omega)]
  rw [e2]
/-! ### the order as it is asked -/
variable {k:Nat}
theorem order_of {n:Int} {W:List Int} {d:Array (Fin (k+1))} (hk:W.length=k+1) {tot:Fin (k+1)→Fin (k+1)→Bool} (ht:∀ x y,tot x y=prec n W x.val y.val) {d0:Array (Fin (k+1))} (h0:d0.toList.map Fin.val=List.range (k+1))
  (S:SortedIn tot 0 (k+1) d) (P:PermIn 0 (k+1) d0 d) :
  (d.toList.map Fin.val).Perm (List.range W.length)∧∀ a b,a<b→b<W.length→prec n W ((d.toList.map Fin.val).getD a 0) ((d.toList.map Fin.val).getD b 0)=true:=by
 have hs0:d0.size=k+1:=by have:=congrArg List.length h0;simpa using this
 have hs:d.size=k+1:=P.1.trans hs0
 have hp:(d.toList.map Fin.val).Perm (List.range W.length):=by
  have h:=P.2.2
  rw [show d.extract 0 (k+1)=d by simp [hs],show d0.extract 0 (k+1)=d0 by simp [hs0]] at h
  rw [hk,←h0]
  exact h.map _
 refine ⟨hp,fun a b hab hb=>?_⟩
 have hn:(d.toList.map Fin.val).Nodup:=hp.nodup_iff.2 List.nodup_range
 have at':∀ i,i<d.size→(d.toList.map Fin.val).getD i 0=d[i]!.val:=fun i hi=>by
  rw [List.getD_eq_getElem?_getD,List.getElem?_map,getElem!_pos d i hi]
  simp [hi]
 rw [at' a (by omega),at' b (by omega),←ht]
 have h1:=S a b (Nat.zero_le _) hab (by omega)
 have hne:d[a]!.val≠d[b]!.val:=fun h=>by
  rw [←at' a (by omega),←at' b (by omega)] at h
  have hl:(d.toList.map Fin.val).length=d.size:=by simp
  rw [List.getD_eq_getElem?_getD,List.getD_eq_getElem?_getD,List.getElem?_eq_getElem (by omega),List.getElem?_eq_getElem (by omega)] at h
  have:=(List.getElem_inj hn).1 h
  omega
 rw [ht] at h1 ⊢
 unfold prec at *
 simp only [decide_eq_true_eq,decide_eq_false_iff_not] at *
 omega
end Go.Proofs.YtenlladggdcfnaaGreatDoor
namespace Go.Proofs.YtenlladggdcfnaaGreatDoor
def leafT (w:ByteArray):Tre:=if 97≤byteN w 0∧byteN w 0≤122 then .ref w else .num (numW w)
theorem leaf_opnd (w:ByteArray) (k:Nat):post (leafT w) k=[opndN w]∧sizT (leafT w)=1:=by
 unfold leafT opndN
 split
 ·exact ⟨rfl,rfl⟩
 ·exact ⟨rfl,rfl⟩
inductive Spl:Nat→Tre→List ByteArray→Prop
 | word (w:ByteArray):48≤byteN w 0→Spl 3 (leafT w) [w]
 | brk (t:Tre) (ws:List ByteArray):Spl 1 t ws→Spl 3 t ([⟨#[40]⟩] ++ ws ++ [⟨#[41]⟩])
 | up (k:Nat) (t:Tre) (ws:List ByteArray):1≤k→k≤2→Spl (k+1) t ws→Spl k t ws
 | bin (k:Nat) (o:Int) (a c:Tre) (wa wc:List ByteArray):3≤o→o≤6→bindN o=(k:Int)→Spl k a wa→Spl (k+1) c wc→Spl k (.bin o a c) (wa ++ [sgnT o] ++ wc)
theorem spl_take {k:Nat} {t:Tre} {ws:List ByteArray} (h:Spl k t ws):∀ (b:Bld),Low b (k:Int)→∀ least:Int,least≤k→settleB least (ws.foldl takeB b)=settleB least (pushT t b):=by
 induction h with
 | word w hw =>
  intro b _ least _
  show settleB least (takeB b w)=_
  rw [take_is_opd hw]
  obtain ⟨e1,e2⟩:=leaf_opnd w b.nodes.length
  unfold pushT addB
  rw [e1,e2]
  rfl
 | brk t ws _ ih =>
  intro b _ least _
  have:=take_brk (l:=ws) (t:=t) (b:=b) (ih _ (low_open _ _ _ _) 0 (by omega))
  rw [brkL,if_pos rfl] at this
  rw [this]
 | up k t ws h1 h2 _ ih =>
  intro b hl least hle
  exact ih b (hl.up (by omega)) least (by omega)
 | bin k o a c wa wc h1 h2 h3 _ _ iha ihc =>
  intro b hl least hle
  have e1:settleB (bindN o) (wa.foldl takeB b)=pushT a b:=by
   rw [h3,iha b hl k (Int.le_refl _)]
   exact settle_low (low_push a hl)
  rw [List.foldl_append,List.foldl_append]
  show settleB least (wc.foldl takeB (takeB (wa.foldl takeB b) (sgnT o)))=_
  rw [take_sign _ ⟨h1,h2⟩,e1,ihc ⟨(pushT a b).nodes,(pushT a b).ready,(pushT a b).waiting ++ [o]⟩ (Or.inr ⟨_,o,rfl,Or.inr (by rw [h3];omega)⟩) least (by omega)]
  show settleB least ⟨(pushT c ⟨(pushT a b).nodes,(pushT a b).ready,b.waiting ++ [o]⟩).nodes,(pushT c ⟨(pushT a b).nodes,(pushT a b).ready,b.waiting ++ [o]⟩).ready,b.waiting ++ [o]⟩=_
  rw [settle_pop (by omega) (by rw [h3];exact hle),join_push]
def Rds (s:ByteArray) (k a a':Nat) (t:Tre):Prop:=a<a'∧a'≤s.size∧∃ ws,Spl k t ws∧∀ r:Rd Bld,r.at'=a→toEnd s takeB false r=toEnd s takeB true ⟨a',r.opn,ws.foldl takeB r.st⟩
def Fls (s:ByteArray) (a a':Nat):Prop:=a≤a'∧a'≤s.size∧∀ r:Rd Bld,r.at'=a→∃ o st,toEnd s takeB false r=(⟨a',o,st⟩,false)
def NoSg (s:ByteArray) (k a:Nat):Prop:=a<s.size→signI (nextB s a)<0∨bindN (3+signI (nextB s a))<(k:Int)
section
variable {s:ByteArray} {k a a1 a2 a':Nat} {t u:Tre}
theorem word_first {n:Nat} (ha:a<s.size) (hn:1≤n):byteN (s.extract a (a+n)) 0=nextB s a:=by
 rw [byteN_ext (by omega),nextB,if_neg (by omega),Nat.add_zero]
theorem rds_dig (ha:a≤s.size) (h:digB (nextB s a)=true):Rds s 3 a (a+digitsN s a) (leafT (s.extract a (a+digitsN s a))):=by
 obtain ⟨h1,h2⟩:=dig_pos ha h
 obtain ⟨h3,h4⟩:=dig_word (o:=0) ha h
 refine ⟨by omega,h2,[s.extract a (a+digitsN s a)],Spl.word _ ?_,fun r hr=>?_⟩
 ·have hd:=word_first (by omega:a<s.size) h1
  rw [hd]
  unfold digB at h
  simp at h
  omega
 ·have he:=end_dig (tk:=takeB) (r:=r) (by rw [hr];exact ha) (by rw [hr];exact h)
  rw [he,wordR,hr]
  rfl
theorem rds_let (ha:a≤s.size) (h:letB (nextB s a)=true):Rds s 3 a (a+leadN letB (s.extract a s.size)) (leafT (s.extract a (a+leadN letB (s.extract a s.size)))):=by
 obtain ⟨h1,h2⟩:=let_pos ha h
 refine ⟨by omega,h2,[s.extract a (a+leadN letB (s.extract a s.size))],Spl.word _ ?_,fun r hr=>?_⟩
 ·have hd:=word_first (by omega:a<s.size) h1
  rw [hd]
  unfold letB at h
  simp at h
  omega
 ·have he:=end_let (tk:=takeB) (r:=r) (by rw [hr];exact ha) (by rw [hr];exact h)
  rw [he,wordR,hr]
  rfl
theorem byte_one (ha:a<s.size) (c:UInt8) (h:nextB s a=(c.toNat:Int)):s.extract a (a+1)=⟨#[c]⟩:=by
 have hz:=slice_ok (s:=s) (a:=a) (n:=1) (by omega)
 have hb:=word_first (n:=1) ha (by omega)
 rw [h] at hb
 apply ByteArray.ext
 apply Array.ext
 ·exact hz
 ·intro i h1 h2
  have hi:i=0:=by simp at h2;omega
  subst hi
  have e:byteN (s.extract a (a+1)) 0=(((s.extract a (a+1)).data[0]'h1).toNat:Int):=by
   unfold byteN
   rw [List.getD,List.getElem?_eq_getElem (by rw [Array.length_toList];exact h1)]
   rfl
  rw [e] at hb
  have:((s.extract a (a+1)).data[0]'h1).toNat=c.toNat:=by omega
  simpa using UInt8.toNat_inj.1 this
theorem rds_brk (ha:a≤s.size) (h40:nextB s a=40) (h:Rds s 1 (a+1) a1 t) (h41:nextB s a1=41):Rds s 3 a (a1+1) t:=by
 obtain ⟨h1,h2,ws,h3,h4⟩:=h
 have hlt:a<s.size:=next_zero (by rw [h40];decide) ha
 have hlt1:a1<s.size:=next_zero (by rw [h41];decide) h2
 refine ⟨by omega,by omega,_,Spl.brk t ws h3,fun r hr=>?_⟩
 have e1:=end_open (tk:=takeB) (r:=r) (by rw [hr];exact ha) (by rw [hr];exact h40)
 have e2:=h4 (wordR s takeB 1 ⟨r.at',r.opn+1,r.st⟩) (by rw [wordR,hr])
 have e3:=end_close (tk:=takeB) (r:=⟨a1,(wordR s takeB 1 ⟨r.at',r.opn+1,r.st⟩).opn,ws.foldl takeB (wordR s takeB 1 ⟨r.at',r.opn+1,r.st⟩).st⟩) h2 ⟨by show 0<r.opn+1;omega,h41⟩
 rw [e1,e2,e3]
 unfold wordR
 simp only
 rw [hr,byte_one hlt 40 (by rw [h40];rfl),byte_one hlt1 41 (by rw [h41];rfl),List.foldl_append,List.foldl_append]
 rfl
theorem rds_up (h1:1≤k) (h2:k≤2) (h:Rds s (k+1) a a' t):Rds s k a a' t:=by
 obtain ⟨g1,g2,ws,g3,g4⟩:=h
 exact ⟨g1,g2,ws,Spl.up k t ws h1 h2 g3,g4⟩
theorem sgn_four {c:Int} (h : ¬ signI c<0):(c=43∧signI c=0)∨(c=45∧signI c=1)∨(c=42∧signI c=2)∨(c=47∧signI c=3):=by
 unfold signI at *
 by_cases h1:c=43
 ·left;exact ⟨h1,by rw [if_pos h1]⟩
 by_cases h2:c=45
 ·right;left;exact ⟨h2,by rw [if_neg h1,if_pos h2]⟩
 by_cases h3:c=42
 ·right;right;left;exact ⟨h3,by rw [if_neg h1,if_neg h2,if_pos h3]⟩
 by_cases h4:c=47
 ·right;right;right;exact ⟨h4,by rw [if_neg h1,if_neg h2,if_neg h3,if_pos h4]⟩
 ·rw [if_neg h1,if_neg h2,if_neg h3,if_neg h4] at h;omega
theorem sign_word (hlt:a<s.size) (h : ¬ signI (nextB s a)<0):s.extract a (a+1)=sgnT (3+signI (nextB s a))∧3≤3+signI (nextB s a)∧3+signI (nextB s a)≤6∧nextB s a≠41:=by
 rcases sgn_four h with ⟨e,e2⟩ | ⟨e,e2⟩ | ⟨e,e2⟩ | ⟨e,e2⟩
 ·rw [e2,byte_one hlt 43 (by rw [e];rfl),e];exact ⟨rfl,by omega,by omega,by omega⟩
 ·rw [e2,byte_one hlt 45 (by rw [e];rfl),e];exact ⟨rfl,by omega,by omega,by omega⟩
 ·rw [e2,byte_one hlt 42 (by rw [e];rfl),e];exact ⟨rfl,by omega,by omega,by omega⟩
 ·rw [e2,byte_one hlt 47 (by rw [e];rfl),e];exact ⟨rfl,by omega,by omega,by omega⟩
theorem rds_bin (h:Rds s k a a1 t) (hlt:a1<s.size) (hs : ¬ signI (nextB s a1)<0) (hk:bindN (3+signI (nextB s a1))=(k:Int)) (h2:Rds s (k+1) (a1+1) a2 u):Rds s k a a2 (.bin (3+signI (nextB s a1)) t u):=by
 obtain ⟨g1,g2,ws,g3,g4⟩:=h
 obtain ⟨f1,f2,vs,f3,f4⟩:=h2
 obtain ⟨w1,w2,w3,w4⟩:=sign_word hlt hs
 refine ⟨by omega,f2,_,Spl.bin k _ t u ws vs w2 w3 hk g3 f3,fun r hr=>?_⟩
 have e2:=end_sign (tk:=takeB) (r:=⟨a1,r.opn,ws.foldl takeB r.st⟩) (fun e=>w4 e.2) hlt hs
 have e3:=f4 (wordR s takeB 1 ⟨a1,r.opn,ws.foldl takeB r.st⟩) rfl
 rw [g4 r hr,e2,e3]
 unfold wordR
 simp only
 rw [w1,List.foldl_append,List.foldl_append]
 rfl
/-! where it goes wrong -/
theorem fls_none (ha:a≤s.size) (h:nextB s a≠40) (h1:digB (nextB s a)=false) (h2:letB (nextB s a)=false):Fls s a a :=
 ⟨Nat.le_refl _,ha,fun r hr=>⟨r.opn,r.st,by rw [end_none (by rw [hr];exact h) (by rw [hr];exact h1) (by rw [hr];exact h2),←hr]⟩⟩
theorem fls_open (ha:a≤s.size) (h40:nextB s a=40) (h:Fls s (a+1) a'):Fls s a a':=by
 obtain ⟨h1,h2,h3⟩:=h
 refine ⟨by omega,h2,fun r hr=>?_⟩
 rw [end_open (by rw [hr];exact ha) (by rw [hr];exact h40)]
 exact h3 _ (by rw [wordR,hr])
theorem fls_shut (ha:a≤s.size) (h40:nextB s a=40) (h:Rds s 1 (a+1) a1 t) (hn:NoSg s 1 a1) (h41:nextB s a1≠41):Fls s a a1:=by
 obtain ⟨h1,h2,ws,h3,h4⟩:=h
 refine ⟨by omega,h2,fun r hr=>?_⟩
 rw [end_open (tk:=takeB) (r:=r) (by rw [hr];exact ha) (by rw [hr];exact h40),h4 _ (by rw [wordR,hr])]
 by_cases hlt:a1<s.size
 ·have hs:signI (nextB s a1)<0:=by
   rcases hn hlt with h | h
   ·exact h
   ·have:=bindN_ge (3+signI (nextB s a1));omega
  rw [end_bad (fun e=>h41 e.2) hlt hs]
  exact ⟨_,_,rfl⟩
 ·rw [end_end (fun e=>h41 e.2) hlt]
  refine ⟨(wordR s takeB 1 ⟨r.at',r.opn+1,r.st⟩).opn,ws.foldl takeB (wordR s takeB 1 ⟨r.at',r.opn+1,r.st⟩).st,?_⟩
  rw [decide_eq_false (show ¬ (wordR s takeB 1 ⟨r.at',r.opn+1,r.st⟩).opn=0 by show ¬ r.opn+1=0;omega)]
theorem fls_sign (h:Rds s k a a1 t) (hlt:a1<s.size) (hs : ¬ signI (nextB s a1)<0) (h2:Fls s (a1+1) a2):Fls s a a2:=by
 obtain ⟨g1,g2,ws,g3,g4⟩:=h
 obtain ⟨f1,f2,f3⟩:=h2
 obtain ⟨w1,w2,w3,w4⟩:=sign_word hlt hs
 refine ⟨by omega,f2,fun r hr=>?_⟩
 rw [g4 r hr,end_sign (tk:=takeB) (r:=⟨a1,r.opn,ws.foldl takeB r.st⟩) (fun e=>w4 e.2) hlt hs]
 exact f3 _ rfl
end
/-! all of a text -/
section
variable {s:ByteArray} {a':Nat} {t:Tre}
theorem read_all (h:Rds s 1 0 s.size t):(goneB s).2=true∧nodesP s=post t 0:=by
 obtain ⟨h1,h2,ws,h3,h4⟩:=h
 have e:goneB s=(⟨s.size,0,ws.foldl takeB noB⟩,true):=by
  unfold goneB
  rw [all_end_eq (r:=⟨0,0,noB⟩) (Nat.zero_le _),h4 ⟨0,0,noB⟩ rfl,end_end (fun e=>absurd e.1 (Nat.lt_irrefl 0)) (Nat.lt_irrefl _)]
  rfl
 refine ⟨by rw [e],?_⟩
 unfold nodesP
 rw [e]
 show (settleB 0 (ws.foldl takeB noB)).nodes=_
 rw [spl_take h3 noB (Or.inl rfl) 0 (by omega)]
 rw [settle_low (b:=pushT t noB) (Or.inl rfl)]
 show [] ++ post t 0=_
 rfl
theorem read_part (h:Rds s 1 0 a' t) (hn:NoSg s 1 a') (hlt:a'<s.size):(goneB s).2=false∧(goneB s).1.at'=a':=by
 obtain ⟨h1,h2,ws,h3,h4⟩:=h
 have hs:signI (nextB s a')<0:=by
  rcases hn hlt with h | h
  ·exact h
  ·have:=bindN_ge (3+signI (nextB s a'));omega
 have e:goneB s=(⟨a',0,ws.foldl takeB noB⟩,false):=by
  unfold goneB
  rw [all_end_eq (r:=⟨0,0,noB⟩) (Nat.zero_le _),h4 ⟨0,0,noB⟩ rfl,end_bad (fun e=>absurd e.1 (Nat.lt_irrefl 0)) hlt hs]
 rw [e]
 exact ⟨rfl,rfl⟩
theorem read_not (h:Fls s 0 a'):(goneB s).2=false∧(goneB s).1.at'=a':=by
 obtain ⟨h1,h2,h3⟩:=h
 obtain ⟨o,st,e⟩:=h3 ⟨0,0,noB⟩ rfl
 have e2:goneB s=(⟨a',o,st⟩,false):=by
  unfold goneB
  rw [all_end_eq (r:=⟨0,0,noB⟩) (Nat.zero_le _),e]
 rw [e2]
 exact ⟨rfl,rfl⟩
end
end Go.Proofs.YtenlladggdcfnaaGreatDoor
namespace Go.Proofs.YtenlladggdcfnaaGreatDoor
open Go.ChangeShapes Go.WideShapes Go.ChangeAt Go.RowKit
set_option maxRecDepth 20000
def InV (w:World) (q:Nat) (s:ByteArray) (a:Nat) (bad:Bool) (v:Value):Prop:=w.heap[q]?=some (.cells #[.string s,.int .i64 a,.bool bad,v] 187 (0,0))
section
variable {w w':World} {q a:Nat} {s:ByteArray} {bad:Bool} {v:Value}
theorem InV.lt (h:InV w q s a bad v):q<w.heap.size:=(Array.getElem?_eq_some_iff.1 h).1
theorem InV.c0 (h:InV w q s a bad v):w.cell? ⟨q,0,none⟩=some (.string s):=by unfold InV at h;simp [World.cell?,h]
theorem InV.c1 (h:InV w q s a bad v):w.cell? ⟨q,1,none⟩=some (.int .i64 a):=by unfold InV at h;simp [World.cell?,h]
theorem InV.c2 (h:InV w q s a bad v):w.cell? ⟨q,2,none⟩=some (.bool bad):=by unfold InV at h;simp [World.cell?,h]
theorem InV.c3 (h:InV w q s a bad v):w.cell? ⟨q,3,none⟩=some v:=by unfold InV at h;simp [World.cell?,h]
theorem InV.fr (h:InV w q s a bad v) (j:Nat):w.frozen? ⟨q,j,none⟩=false:=by unfold InV at h;simp [World.frozen?,h]
theorem InV.later (h:InV w q s a bad v) (hB:Below w.heap.size w w'):InV w' q s a bad v:=(hB.block q h.lt).trans h
theorem InV.same (h:InV w q s a bad v) (hB:w'.heap[q]?=w.heap[q]?):InV w' q s a bad v:=hB.trans h
theorem InV.set1 (h:InV w q s a bad v) (n:Nat):InV (w.setCell ⟨q,1,none⟩ (.int .i64 n)) q s n bad v:=by
 unfold InV at *
 rw [setCell_eq_setRow w q 1 _ _ (0,0) _ h,setRow_heap w q _ _ _ _ h]
 rfl
theorem InV.set2 (h:InV w q s a bad v) (b:Bool):InV (w.setCell ⟨q,2,none⟩ (.bool b)) q s a b v:=by
 unfold InV at *
 rw [setCell_eq_setRow w q 2 _ _ (0,0) _ h,setRow_heap w q _ _ _ _ h]
 rfl
theorem InV.set3 (h:InV w q s a bad v) (u:Value):InV (w.setCell ⟨q,3,none⟩ u) q s a bad u:=by
 unfold InV at *
 rw [setCell_eq_setRow w q 3 _ _ (0,0) _ h,setRow_heap w q _ _ _ _ h]
 rfl
end
set_option maxHeartbeats 1000000 in
theorem in_bad (q a:Nat) (s:ByteArray) (v:Value) (lo hi:Int) (w:World) (hI:InV w q s a true v):Calls Tryz.prog 154 #[.pointer (some ⟨q,0,none⟩),.int .u8 lo,.int .u8 hi] w fun e w'=>e=.returned (.bool false)∧Below w.heap.size w w':=by
 have c0:=hI.c0
 have c1:=hI.c1
 have c2:=hI.c2
 have hq:=hI.lt
 clear hI
 go_enter Tryz.func154,Tryz.ntmps154
 go_wp2_with fail
 go_quiet (fail)
 go_wp2_with fail
 go_ret
 exact ⟨rfl,below_drewN (Below.refl _ _) _⟩
set_option maxHeartbeats 1000000 in
theorem in_any (q a:Nat) (s:ByteArray) (v:Value) (lo hi:Int) (w:World) (hl:0<lo) (ha:a≤s.size) (hI:InV w q s a false v):Calls Tryz.prog 154 #[.pointer (some ⟨q,0,none⟩),.int .u8 lo,.int .u8 hi] w fun e w'=>e=.returned (.bool (decide (lo≤nextB s a) && decide (nextB s a≤hi)))∧Below w.heap.size w w':=by
 have c0:=hI.c0
 have c1:=hI.c1
 have c2:=hI.c2
 have hq:=hI.lt
 clear hI
 by_cases he:a=s.size
 ·subst he
  have h0:nextB s s.size=0:=by simp [nextB]
  rw [h0,decide_eq_false (by omega),Bool.false_and]
  go_enter Tryz.func154,Tryz.ntmps154
  go_wp2_with fail
  go_quiet (fail)
  go_wp2_with fail
  go_ret
  exact ⟨rfl,below_drewN (Below.refl _ _) _⟩
 ·have hlt:a<s.size:=by omega
  have hai:(a:Int)<(s.size:Int):=by omega
  have h0:nextB s a=byteN s a:=by simp [nextB,he]
  have hby:=byteN_get s a hlt
  rw [h0]
  by_cases h1:lo≤byteN s a
  ·rw [decide_eq_true h1,Bool.true_and]
   go_enter Tryz.func154,Tryz.ntmps154
   go_wp2_with fail
   go_quiet (fail)
   go_wp2_with fail
   go_ret
   exact ⟨by first | rfl | simp,below_drewN (Below.refl _ _) _⟩
  ·rw [decide_eq_false h1,Bool.false_and]
   have h1':byteN s a<lo:=by omega
   have hd1:decide (lo≤byteN s a)=false:=decide_eq_false h1
   have hd2:decide (byteN s a<lo)=true:=decide_eq_true h1'
   clear h1
   go_enter Tryz.func154,Tryz.ntmps154
   go_wp2_with fail
   go_quiet (fail)
   go_wp2_with fail
   go_ret
   exact ⟨rfl,below_drewN (Below.refl _ _) _⟩
theorem rank_any (op:Int) (w:World):Calls Tryz.prog 141 #[.int .i64 op] w fun e w'=>e=.returned (.int .i64 (bindN op))∧Below w.heap.size w w':=by
 unfold bindN
 by_cases h3:op=3
 ·subst h3
  go_enter Tryz.func141,Tryz.ntmps141
  go_wp2
  go_ret
  exact ⟨by simp,by go_grown⟩
 by_cases h4:op=4
 ·subst h4
  go_enter Tryz.func141,Tryz.ntmps141
  go_wp2
  go_ret
  exact ⟨by simp,by go_grown⟩
 by_cases h5:op=5
 ·subst h5
  go_enter Tryz.func141,Tryz.ntmps141
  go_wp2
  go_ret
  exact ⟨by simp,by go_grown⟩
 by_cases h6:op=6
 ·subst h6
  go_enter Tryz.func141,Tryz.ntmps141
  go_wp2
  go_ret
  exact ⟨by simp,by go_grown⟩
 rw [if_neg (by omega),if_neg (by omega)]
 have e3:(op == 3)=false:=by simpa using h3
 have e4:(op == 4)=false:=by simpa using h4
 have e5:(op == 5)=false:=by simpa using h5
 have e6:(op == 6)=false:=by simpa using h6
 clear h3 h4 h5 h6
 go_enter Tryz.func141,Tryz.ntmps141
 go_wp2
 go_ret
 exact ⟨rfl,by go_grown⟩
end Go.Proofs.YtenlladggdcfnaaGreatDoor
