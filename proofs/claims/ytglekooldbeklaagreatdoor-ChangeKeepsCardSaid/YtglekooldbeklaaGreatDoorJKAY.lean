/-
  The text of a tree, on plain data: it is read as its words, and so as its nodes.
-/
import Derived.Test.YtglekooldbeklaaGreatDoorJKAX
namespace Go.Proofs.YtglekooldbeklaaGreatDoor
def Has (s:ByteArray) (p:Nat) (l:List UInt8):Prop := ∃ pre post,s.data.toList=pre ++ l ++ post∧pre.length=p
section
variable {s:ByteArray} {p:Nat} {l l1 l2:List UInt8}
theorem Has.size (h:Has s p l):p+l.length≤s.size:=by
 obtain ⟨pre,post,h1,h2⟩:=h
 have e:s.size=s.data.toList.length:=Array.length_toList.symm
 rw [e,h1]
 simp
 omega
theorem Has.left (h:Has s p (l1 ++ l2)):Has s p l1:=by
 obtain ⟨pre,post,h1,h2⟩:=h
 exact ⟨pre,l2 ++ post,by rw [h1];simp,h2⟩
theorem Has.right (h:Has s p (l1 ++ l2)):Has s (p+l1.length) l2:=by
 obtain ⟨pre,post,h1,h2⟩:=h
 exact ⟨pre ++ l1,post,by rw [h1];simp,by simp [h2]⟩
theorem Has.byte (h:Has s p l) {i:Nat} (hi:i<l.length):byteN s (p+i)=((l.getD i 0).toNat:Int):=by
 obtain ⟨pre,post,h1,h2⟩:=h
 unfold byteN
 rw [h1]
 congr 2
 simp only [List.getD]
 rw [List.append_assoc,List.getElem?_append_right (by omega),List.getElem?_append_left (by omega)]
 congr 2
 omega
theorem Has.word (h:Has s p l):s.extract p (p+l.length)=⟨l.toArray⟩:=by
 obtain ⟨pre,post,h1,h2⟩:=h
 apply ByteArray.ext
 apply Array.toList_inj.1
 rw [Lib.extract_data,h1]
 simp [←h2]
theorem Has.next (h:Has s p l) {x:UInt8} {r:List UInt8} (hl:l=x :: r):nextB s p=(x.toNat:Int):=by
 have hs:=h.size
 rw [hl,List.length_cons] at hs
 have hb:=h.byte (i:=0) (by rw [hl];simp)
 rw [next_at (by omega),←Nat.add_zero p,hb,hl]
 rfl
end
def Fol (s:ByteArray) (p:Nat):Prop:=digB (nextB s p)=false∧letB (nextB s p)=false
theorem leadTo_exact {q:Int→Bool} {t:ByteArray} {m:Nat} (h1:∀ i,i<m→q (byteN t i)=true) (h2:m=t.size∨q (byteN t m)=false):∀ (f i:Nat),i≤m→i+f=t.size→leadTo q t f i=m
 | 0,i,hi,hf=>by
  rcases h2 with h2 | h2
  ·show i=m;omega
  ·by_cases e:i=m
   ·exact e
   ·have:=h1 i (by omega)
    show i=m
    exfalso
    have hz:byteN t i=0:=by
     unfold byteN
     have e2:t.size=t.data.toList.length:=Array.length_toList.symm
     rw [List.getD,List.getElem?_eq_none (by omega)]
     rfl
    have hz2:byteN t m=0:=by
     unfold byteN
     have e2:t.size=t.data.toList.length:=Array.length_toList.symm
     rw [List.getD,List.getElem?_eq_none (by omega)]
     rfl
    rw [hz] at this
    rw [hz2,this] at h2
    cases h2
 | f+1,i,hi,hf=>by
  by_cases e:i=m
  ·rcases h2 with h2 | h2
   ·omega
   ·rw [leadTo,e,if_neg (by rw [h2];decide)]
  ·rw [leadTo,if_pos (h1 i (by omega))]
   exact leadTo_exact h1 h2 f (i+1) (by omega) (by omega)
theorem lead_has {q:Int→Bool} {s:ByteArray} {p:Nat} {l:List UInt8} (h:Has s p l) (h1:∀ b∈l,q (b.toNat:Int)=true) (hf:q (nextB s (p+l.length))=false):leadN q (s.extract p s.size)=l.length:=by
 have hs:=h.size
 have ht:=tail_size s p
 unfold leadN
 refine leadTo_exact (m:=l.length) (fun i hi=>?_) ?_ _ 0 (Nat.zero_le _) (by omega)
 ·rw [byteN_ext (by omega),h.byte hi,List.getD,List.getElem?_eq_getElem hi]
  exact h1 _ (List.getElem_mem hi)
 ·by_cases e:p+l.length=s.size
  ·left;omega
  ·right
   rw [byteN_ext (by omega),←next_at (by omega)]
   exact hf
def bytesOf (ts:List ByteArray):List UInt8:=ts.flatMap fun t=>t.data.toList
def txtL (t:Tre):List UInt8:=bytesOf (tokT t)
theorem bytes_app (a b:List ByteArray):bytesOf (a ++ b)=bytesOf a ++ bytesOf b:=by simp [bytesOf]
theorem bytes_one (a:ByteArray):bytesOf [a]=a.data.toList:=by simp [bytesOf]
theorem dig7_le (u:Nat) (h:u<10000000):(Lib.decDigits u).length≤7:=by
 rw [Lib.decDigits_length]
 have step:∀ v k,(v<10 ^ k→Lib.nDigits v≤k)∨k=0:=by
  intro v k
  induction k generalizing v with
  | zero=>exact Or.inr rfl
  | succ k ih =>
   left
   intro hv
   rw [Lib.nDigits]
   split
   ·omega
   ·rename_i h10
    rcases ih (v / 10) with h | h
    ·have:=h (by rw [Nat.pow_succ] at hv;omega)
     omega
    ·subst h
     simp at hv
     omega
 rcases step u 7 with h7 | h7
 ·exact h7 (by simpa using h)
 ·omega
section
variable {S:Type} {s:ByteArray} {tk:S→ByteArray→S}
theorem read_num {r:Rd S} {n:Int} (h0:0≤n) (h1:n≤1000000) (hH:Has s r.at' (numB n).data.toList) (hF:Fol s (r.at'+(numB n).data.toList.length)):toEnd s tk false r=toEnd s tk true ⟨r.at'+(numB n).data.toList.length,r.opn,tk r.st (numB n)⟩:=by
 obtain ⟨u,rfl⟩:∃ u:Nat,n=u:=⟨n.toNat,by omega⟩
 have hl:(numB (u:Int)).data.toList=Lib.decDigits u:=by simp [numB,Lib.itoa_nonneg]
 have hw:=hH.word
 have hs:=hH.size
 have hB:(⟨(numB (u:Int)).data.toList.toArray⟩:ByteArray)=numB u:=by simp
 rw [hB] at hw
 rw [hl] at hH hF hw hs ⊢
 obtain ⟨d,t,hd,h10,hpos,hone⟩:=head_decDigits u
 have hnx:nextB s r.at'=((48+d:Nat):Int):=by
  rw [hH.next hd]
  have:(UInt8.ofNat (48+d)).toNat=48+d:=by simp;omega
  rw [this]
 have hdg:digB (nextB s r.at')=true:=by rw [hnx];unfold digB;simp;omega
 have hlead:=lead_has (q:=digB) hH (fun b hb=>by have:=num_all u b hb;unfold digB;simp;omega) hF.1
 have hlen:=dig7_le u (by omega)
 have hdn:digitsN s r.at'=(Lib.decDigits u).length:=by
  unfold digitsN
  by_cases hd0:d=0
  ·subst hd0
   rw [if_pos (by rw [hnx];rfl)]
   have hu:u<10:=by
    by_cases h:1≤u
    ·have:=hpos h;omega
    ·omega
   rw [hd,hone hu]
   rfl
  ·rw [if_neg (by rw [hnx];omega),hlead]
   omega
 rw [end_dig (by omega) hdg,hdn]
 unfold wordR
 rw [hw]
theorem read_ref {r:Rd S} {nm:ByteArray} (h:nameErr nm=0) (hH:Has s r.at' nm.data.toList) (hF:Fol s (r.at'+nm.data.toList.length)):toEnd s tk false r=toEnd s tk true ⟨r.at'+nm.data.toList.length,r.opn,tk r.st nm⟩:=by
 obtain ⟨h1,_,h3⟩:=name_first h
 have hs:=hH.size
 have hsz:nm.size=nm.data.toList.length:=Array.length_toList.symm
 have hw:=hH.word
 have hB:(⟨nm.data.toList.toArray⟩:ByteArray)=nm:=by simp
 rw [hB] at hw
 have hall:∀ b∈nm.data.toList,letB (b.toNat:Int)=true:=by
  intro b hb
  obtain ⟨i,hi,rfl⟩:=List.getElem_of_mem hb
  have:=h3 i (by omega)
  unfold byteN at this
  rw [List.getD,List.getElem?_eq_getElem hi] at this
  exact this
 have hlt:letB (nextB s r.at')=true:=by
  have hb:=hH.byte (i:=0) (by omega)
  rw [next_at (by omega),←Nat.add_zero r.at',hb,List.getD,List.getElem?_eq_getElem (by omega)]
  exact hall _ (List.getElem_mem _)
 rw [end_let (by omega) hlt,lead_has (q:=letB) hH hall hF.2]
 unfold wordR
 rw [hw]
theorem fol_sign {p:Nat} {c:UInt8} {l:List UInt8} (h:Has s p (c :: l)) (hc:c=43∨c=45∨c=42∨c=47∨c=41):Fol s p:=by
 have hn:=h.next rfl
 unfold Fol
 rw [hn]
 rcases hc with rfl | rfl | rfl | rfl | rfl <;> decide
theorem read_brk {t:Tre} (ih:∀ r:Rd S,Has s r.at' (txtL t)→Fol s (r.at'+(txtL t).length)→toEnd s tk false r=toEnd s tk true ⟨r.at'+(txtL t).length,r.opn,(tokT t).foldl tk r.st⟩) (c:Bool) (r:Rd S) (hH:Has s r.at' (bytesOf (brkL (tokT t) c))) (hF:Fol s (r.at'+(bytesOf (brkL (tokT t) c)).length)) :
  toEnd s tk false r=toEnd s tk true ⟨r.at'+(bytesOf (brkL (tokT t) c)).length,r.opn,(brkL (tokT t) c).foldl tk r.st⟩:=by
 cases c
 ·exact ih r hH hF
 ·have hb:bytesOf (brkL (tokT t) true)=[40] ++ txtL t ++ [41]:=by
   show bytesOf ([ByteArray.mk #[40]] ++ tokT t ++ [ByteArray.mk #[41]])=_
   rw [bytes_app,bytes_app,bytes_one,bytes_one]
   rfl
  have hf:(brkL (tokT t) true).foldl tk r.st=tk ((tokT t).foldl tk (tk r.st ⟨#[40]⟩)) ⟨#[41]⟩:=by
   show ([ByteArray.mk #[40]] ++ tokT t ++ [ByteArray.mk #[41]]).foldl tk r.st=_
   rw [List.foldl_append,List.foldl_append]
   rfl
  rw [hb] at hH hF ⊢
  rw [hf]
  have hs:=hH.size
  have h1:Has s r.at' [40]:=hH.left.left
  have h2:Has s (r.at'+1) (txtL t):=hH.left.right
  have h3:=hH.right
  simp only [List.length_append,List.length_singleton] at h3 hs ⊢
  have n1:=h1.next rfl
  have w1:=h1.word
  have n3:=h3.next rfl
  have w3:=h3.word
  simp only [List.length_singleton] at w1 w3
  rw [end_open (by omega) n1]
  have e1:wordR s tk 1 ⟨r.at',r.opn+1,r.st⟩=⟨r.at'+1,r.opn+1,tk r.st ⟨#[40]⟩⟩:=by
   unfold wordR
   simp only [w1]
  rw [e1]
  have hF2:Fol s (r.at'+1+(txtL t).length):=by
   rw [show r.at'+1+(txtL t).length=r.at'+(1+(txtL t).length) by omega]
   exact fol_sign h3 (by simp)
  rw [ih _ h2 hF2,end_close (by show r.at'+1+(txtL t).length≤_;omega) ⟨Nat.succ_pos _,by
   show nextB s (r.at'+1+(txtL t).length)=41
   rw [show r.at'+1+(txtL t).length=r.at'+(1+(txtL t).length) by omega]
   exact n3⟩]
  have e2:wordR s tk 1 ⟨r.at'+1+(txtL t).length,r.opn+1-1,(tokT t).foldl tk (tk r.st ⟨#[40]⟩)⟩=⟨r.at'+(1+(txtL t).length+1),r.opn,tk ((tokT t).foldl tk (tk r.st ⟨#[40]⟩)) ⟨#[41]⟩⟩:=by
   show (⟨r.at'+1+(txtL t).length+1,r.opn+1-1,tk ((tokT t).foldl tk (tk r.st ⟨#[40]⟩)) (s.extract (r.at'+1+(txtL t).length) (r.at'+1+(txtL t).length+1))⟩:Rd S)=_
   rw [show r.at'+1+(txtL t).length=r.at'+(1+(txtL t).length) by omega,w3]
   rfl
  show toEnd s tk true (wordR s tk 1 ⟨r.at'+1+(txtL t).length,r.opn+1-1,(tokT t).foldl tk (tk r.st ⟨#[40]⟩)⟩)=_
  rw [e2]
theorem read_tree:∀ (t:Tre) (r:Rd S),okT t→Has s r.at' (txtL t)→Fol s (r.at'+(txtL t).length)→toEnd s tk false r=toEnd s tk true ⟨r.at'+(txtL t).length,r.opn,(tokT t).foldl tk r.st⟩
 | .num n,r,hk,hH,hF=>by
  have e:txtL (.num n)=(numB n).data.toList:=bytes_one _
  rw [e] at hH hF ⊢
  exact read_num hk.1 hk.2 hH hF
 | .ref nm,r,hk,hH,hF=>by
  have e:txtL (.ref nm)=nm.data.toList:=bytes_one _
  rw [e] at hH hF ⊢
  exact read_ref hk hH hF
 | .bin o a b,r,⟨ho,ha,hb⟩,hH,hF=>by
  obtain ⟨ca,hca⟩:∃ c,decide (bindT a<bindN o)=c:=⟨_,rfl⟩
  obtain ⟨cb,hcb⟩:∃ c,decide (bindT b≤bindN o)=c:=⟨_,rfl⟩
  have ht:tokT (.bin o a b)=brkL (tokT a) ca ++ [sgnT o] ++ brkL (tokT b) cb:=by rw [tokT,hca,hcb]
  have e:txtL (.bin o a b)=bytesOf (brkL (tokT a) ca) ++ (sgnT o).data.toList ++ bytesOf (brkL (tokT b) cb):=by
   unfold txtL
   rw [ht,bytes_app,bytes_app,bytes_one]
  obtain ⟨c,hc,hcs,hsg⟩:∃ c:UInt8,(sgnT o).data.toList=[c]∧(c=43∨c=45∨c=42∨c=47∨c=41)∧(¬ signI (c.toNat:Int)<0∧(c.toNat:Int)≠41):=by
   have hoc:o=3∨o=4∨o=5∨o=6:=by omega
   rcases hoc with rfl | rfl | rfl | rfl
   ·exact ⟨43,rfl,by simp,by decide⟩
   ·exact ⟨45,rfl,by simp,by decide⟩
   ·exact ⟨42,rfl,by simp,by decide⟩
   ·exact ⟨47,rfl,by simp,by decide⟩
  rw [e,hc] at hH hF ⊢
  rw [ht]
  obtain ⟨la,hla⟩:∃ l,bytesOf (brkL (tokT a) ca)=l:=⟨_,rfl⟩
  obtain ⟨lb,hlb⟩:∃ l,bytesOf (brkL (tokT b) cb)=l:=⟨_,rfl⟩
  rw [hla,hlb] at hH hF ⊢
  have hs:=hH.size
  have h1:Has s r.at' la:=hH.left.left
  have h2:Has s (r.at'+la.length) [c]:=hH.left.right
  have h3:=hH.right
  simp only [List.length_append,List.length_singleton] at h3 hs hF ⊢
  have n2:=h2.next rfl
  have w2:=h2.word
  simp only [List.length_singleton] at w2
  have hws:(⟨[c].toArray⟩:ByteArray)=sgnT o:=by
   apply ByteArray.ext
   apply Array.toList_inj.1
   rw [hc]
  rw [hws] at w2
  have r1:=read_brk (t:=a) (fun r h hf=>read_tree a r ha h hf) ca r (by rw [hla];exact h1) (by rw [hla];exact fol_sign h2 hcs)
  rw [hla] at r1
  rw [r1,end_sign (by show ¬ (0<r.opn∧nextB s (r.at'+la.length)=41);rw [n2];intro h;exact hsg.2 h.2) (by show r.at'+la.length<s.size;omega) (by show ¬ signI (nextB s (r.at'+la.length))<0;rw [n2];exact hsg.1)]
  have e2:wordR s tk 1 ⟨r.at'+la.length,r.opn,(brkL (tokT a) ca).foldl tk r.st⟩=⟨r.at'+(la.length+1),r.opn,tk ((brkL (tokT a) ca).foldl tk r.st) (sgnT o)⟩:=by
   show (⟨r.at'+la.length+1,r.opn,tk ((brkL (tokT a) ca).foldl tk r.st) (s.extract (r.at'+la.length) (r.at'+la.length+1))⟩:Rd S)=_
   rw [w2]
   rfl
  rw [e2]
  have r2:=read_brk (tk:=tk) (t:=b) (fun r h hf=>read_tree b r hb h hf) cb ⟨r.at'+(la.length+1),r.opn,tk ((brkL (tokT a) ca).foldl tk r.st) (sgnT o)⟩ (by rw [hlb];exact h3) (by rw [hlb];show Fol s (r.at'+(la.length+1)+lb.length);rw [show r.at'+(la.length+1)+lb.length=r.at'+(la.length+1+lb.length) by omega];exact hF)
  rw [hlb] at r2
  rw [r2]
  simp only [List.foldl_append,List.foldl_cons,List.foldl_nil,Nat.add_assoc]
end
def treT (t:Tre):ByteArray:=⟨(txtL t).toArray⟩
theorem gone_tree (t:Tre) (h:okT t):(goneB (treT t)).2=true∧nodesP (treT t)=post t 0:=by
 have hH:Has (treT t) 0 (txtL t):=⟨[],[],by simp [treT],rfl⟩
 have hz:(treT t).size=(txtL t).length:=by simp [treT,ByteArray.size]
 have hn:nextB (treT t) (txtL t).length=0:=by rw [nextB,if_pos hz.symm]
 have hF:Fol (treT t) (0+(txtL t).length):=by
  rw [Nat.zero_add]
  unfold Fol
  rw [hn]
  decide
 have e:goneB (treT t)=(⟨0+(txtL t).length,0,(tokT t).foldl takeB noB⟩,true):=by
  unfold goneB
  rw [all_end_eq (Nat.zero_le _),read_tree t ⟨0,0,noB⟩ h hH hF,end_end (by intro h;exact absurd h.1 (Nat.lt_irrefl 0)) (by show ¬ 0+(txtL t).length<_;omega)]
  rfl
 refine ⟨by rw [e],?_⟩
 unfold nodesP
 rw [e]
 show (settleB 0 ((tokT t).foldl takeB noB)).nodes=_
 rw [take_tree t noB h (Or.inl rfl) 0 (by cases t <;> simp [bindT,bindN] <;> (try split) <;> (try split) <;> omega),settle_low (low_push t (Or.inl rfl))]
 simp [pushT,noB]
def trF (l:List Nd):Nat→Nat→Tre
 | 0,_=>.num 0
 | f+1,i=>if (l.getD i noN).op=1 then .num (l.getD i noN).n else if (l.getD i noN).op=2 then .ref (l.getD i noN).name else .bin (l.getD i noN).op (trF l f (l.getD i noN).left.toNat) (trF l f (l.getD i noN).right.toNat)
def treeOf (l:List Nd) (i:Nat):Tre:=trF l (i+1) i
def RightL (l:List Nd):Prop := ∀ j,j<l.length→ndErr (l.getD j noN) j=0
theorem op_range {x:Nd} {i:Nat} (h:ndErr x i=0):1≤x.op∧x.op≤6:=by
 unfold ndErr at h
 split at h
 ·cases h
 ·omega
theorem trF_fuel {l:List Nd} (hl:RightL l):∀ (f g i:Nat),i<l.length→i<f→i<g→trF l f i=trF l g i
 | 0,_,_,_,h,_=>by omega
 | _+1,0,_,_,_,h=>by omega
 | f+1,g+1,i,hi,hf,hg=>by
  rw [trF,trF]
  by_cases h1:(l.getD i noN).op=1
  ·rw [if_pos h1,if_pos h1]
  rw [if_neg h1,if_neg h1]
  by_cases h2:(l.getD i noN).op=2
  ·rw [if_pos h2,if_pos h2]
  rw [if_neg h2,if_neg h2]
  have ho:=op_range (hl i hi)
  obtain ⟨a1,a2,a3,a4⟩:=nd_sides (hl i hi) (by omega)
  rw [trF_fuel hl f g _ (by omega) (by omega) (by omega),trF_fuel hl f g (l.getD i noN).right.toNat (by omega) (by omega) (by omega)]
section
variable {l:List Nd} {i:Nat}
theorem tree_num (h:(l.getD i noN).op=1):treeOf l i=.num (l.getD i noN).n:=by unfold treeOf;rw [trF,if_pos h]
theorem tree_ref (h:(l.getD i noN).op=2):treeOf l i=.ref (l.getD i noN).name:=by unfold treeOf;rw [trF,if_neg (by omega),if_pos h]
theorem tree_bin (hl:RightL l) (hi:i<l.length) (h:2<(l.getD i noN).op):treeOf l i=.bin (l.getD i noN).op (treeOf l (l.getD i noN).left.toNat) (treeOf l (l.getD i noN).right.toNat):=by
 obtain ⟨a1,a2,a3,a4⟩:=nd_sides (hl i hi) h
 unfold treeOf
 rw [trF,if_neg (by omega),if_neg (by omega),trF_fuel hl i _ _ (by omega) (by omega) (Nat.lt_succ_self _),trF_fuel hl i _ (l.getD i noN).right.toNat (by omega) (by omega) (Nat.lt_succ_self _)]
theorem bind_tree (hl:RightL l) (hi:i<l.length):bindT (treeOf l i)=bindN (l.getD i noN).op:=by
 have ho:=op_range (hl i hi)
 by_cases h1:(l.getD i noN).op=1
 ·rw [tree_num h1,h1];rfl
 by_cases h2:(l.getD i noN).op=2
 ·rw [tree_ref h2,h2];rfl
 ·rw [tree_bin hl hi (by omega)];rfl
end
theorem ok_tree {l:List Nd} (hl:RightL l):∀ i,i<l.length→okT (treeOf l i):=by
 intro i
 induction i using Nat.strongRecOn with
 | _ i ih =>
  intro hi
  have hg:=hl i hi
  have ho:=op_range hg
  by_cases h1:(l.getD i noN).op=1
  ·rw [tree_num h1]
   unfold ndErr at hg
   rw [if_neg (by omega),if_pos h1] at hg
   split at hg
   ·cases hg
   ·show 0≤_∧_≤(1000000:Int);omega
  by_cases h2:(l.getD i noN).op=2
  ·rw [tree_ref h2]
   unfold ndErr at hg
   rw [if_neg (by omega),if_neg h1,if_pos h2] at hg
   split at hg
   ·cases hg
   ·rename_i h;show nameErr _=0;simpa using h
  ·obtain ⟨a1,a2,a3,a4⟩:=nd_sides hg (by omega)
   rw [tree_bin hl hi (by omega)]
   exact ⟨by omega,ih _ (by omega) (by omega),ih _ (by omega) (by omega)⟩
theorem byte_ext3 {l:List UInt8} {b:ByteArray} (h:l=b.data.toList):(⟨l.toArray⟩:ByteArray)=b:=by
 apply ByteArray.ext
 apply Array.toList_inj.1
 rw [h]
theorem tre_num (n:Int):treT (.num n)=numB n:=by
 apply byte_ext3
 show bytesOf [numB n]=_
 rw [bytes_one]
theorem tre_ref (s:ByteArray):treT (.ref s)=s:=by
 apply byte_ext3
 show bytesOf [s]=_
 rw [bytes_one]
theorem tre_bin (o:Int) (a b:Tre):treT (.bin o a b)=brk (treT a) (decide (bindT a<bindN o)) ++ sgnT o ++ brk (treT b) (decide (bindT b≤bindN o)):=by
 have hbr:∀ (t:Tre) (c:Bool),(brk (treT t) c).data.toList=bytesOf (brkL (tokT t) c):=by
  intro t c
  cases c
  ·simp [brk,brkL,treT,txtL]
  ·show ((⟨#[40]⟩ ++ treT t ++ ⟨#[41]⟩:ByteArray)).data.toList=bytesOf ([ByteArray.mk #[40]] ++ tokT t ++ [ByteArray.mk #[41]])
   rw [bytes_app,bytes_app,bytes_one,bytes_one]
   simp [treT,txtL]
 apply byte_ext3
 rw [ByteArray.data_append,ByteArray.data_append,Array.toList_append,Array.toList_append,hbr,hbr]
 show bytesOf (brkL (tokT a) (decide (bindT a<bindN o)) ++ [sgnT o] ++ brkL (tokT b) (decide (bindT b≤bindN o)))=_
 rw [bytes_app,bytes_app,bytes_one]
theorem texts_tree {l:List Nd} (hl:RightL l):∀ k,k≤l.length→∀ j,j<k→(textsTo l k).getD j noT=treT (treeOf l j)
 | 0,_,j,h=>by omega
 | k+1,hk,j,hj=>by
  have ih:=texts_tree hl k (by omega)
  rw [textsTo,List.getD_eq_getElem?_getD,List.getElem?_set]
  by_cases e:k=j
  ·subst e
   rw [if_pos rfl,if_pos (by rw [texts_len];omega)]
   simp only [Option.getD_some]
   have ho:=op_range (hl k (by omega))
   by_cases h1:(l.getD k noN).op=1
   ·rw [txt_num h1,tree_num h1,tre_num];rfl
   by_cases h2:(l.getD k noN).op=2
   ·rw [txt_ref h2,tree_ref h2,tre_ref]
   ·obtain ⟨a1,a2,a3,a4⟩:=nd_sides (hl k (by omega)) (by omega)
    rw [txt_op (a:=(l.getD k noN).left.toNat) (c:=(l.getD k noN).right.toNat) (by omega) (by omega) (by omega),tree_bin hl (by omega) (by omega),tre_bin,ih _ (by omega),ih _ (by omega),bind_tree hl (by omega),bind_tree hl (by omega)]
  ·rw [if_neg e,←List.getD_eq_getElem?_getD]
   exact ih j (by omega)
theorem print_tree {l:List Nd} (h:formErr l=0):printT l=treT (treeOf l (l.length-1)):=by
 obtain ⟨h1,h2,h3,-⟩:=form_right h
 unfold printT
 rw [if_pos h]
 exact texts_tree h3 l.length (Nat.le_refl _) _ (by omega)
end Go.Proofs.YtglekooldbeklaaGreatDoor
namespace Go.Proofs.YtglekooldbeklaaGreatDoor
open Go.ChangeShapes Go.WideShapes Go.ChangeAt Go.RowKit
set_option maxRecDepth 20000
theorem first_false (p:Nat→Bool):∀ n,p n=false→∃ k,k≤n∧p k=false∧∀ t,t<k→p t=true:=by
 intro n
 induction n with
 | zero=>intro h;exact ⟨0,Nat.le_refl _,h,fun t ht=>absurd ht (Nat.not_lt_zero _)⟩
 | succ n ih =>
  intro h
  by_cases e:∃ j,j≤n∧p j=false
  ·obtain ⟨j,hj,h1⟩:=e
   clear ih
   have hw:∀ m j,j≤m→p j=false→∃ k,k≤j∧p k=false∧∀ t,t<k→p t=true:=by
    intro m
    induction m with
    | zero=>intro j hj h1;exact ⟨j,Nat.le_refl _,h1,fun t ht=>by omega⟩
    | succ m ih =>
     intro j hj h1
     by_cases e2:∃ i,i<j∧p i=false
     ·obtain ⟨i,hi,h2⟩:=e2
      obtain ⟨k,h3,h4,h5⟩:=ih i (by omega) h2
      exact ⟨k,by omega,h4,h5⟩
     ·refine ⟨j,Nat.le_refl _,h1,fun t ht=>?_⟩
      cases hp:p t
      ·exact absurd ⟨t,ht,hp⟩ e2
      ·rfl
   obtain ⟨k,h2,h3,h4⟩:=hw j j (Nat.le_refl _) h1
   exact ⟨k,by omega,h3,h4⟩
  ·refine ⟨n+1,Nat.le_refl _,h,fun t ht=>?_⟩
   cases hp:p t
   ·exact absurd ⟨t,by omega,hp⟩ e
   ·rfl
theorem not_less (x:ByteArray):Op.bytesLess x.toList x.toList=false:=by
 rw [bytesLess_eq]
 exact decide_eq_false (List.lt_irrefl _)
theorem bs_where {N:List ByteArray} (hr:∀ j,1≤j→j<N.length→downS N j=false) (x:ByteArray) (S:Nat→ByteArray) (hS:S=fun j=>if j<N.length then N.getD j noS else x) :
  (decide (Lib.bsGo (fun t=>Op.bytesLess (S t).toList x.toList) N.length 0 N.length<N.length∧S (Lib.bsGo (fun t=>Op.bytesLess (S t).toList x.toList) N.length 0 N.length)=x)=decide (0≤whereS N x)) ∧
  (0≤whereS N x→(Lib.bsGo (fun t=>Op.bytesLess (S t).toList x.toList) N.length 0 N.length:Int)=whereS N x):=by
 have hup:=rise_all hr
 have s1:∀ j,j<N.length→S j=N.getD j noS:=fun j hj=>by rw [hS];exact if_pos hj
 have s2:∀ j,N.length≤j→S j=x:=fun j hj=>by rw [hS];exact if_neg (by omega)
 obtain ⟨k,hk,h1,h2⟩:=first_false (fun t=>Op.bytesLess (S t).toList x.toList) N.length (by show Op.bytesLess (S N.length).toList x.toList=false;rw [s2 _ (Nat.le_refl _)];exact not_less x)
 have h1':Op.bytesLess (S k).toList x.toList=false:=h1
 have h2':∀ t,t<k→Op.bytesLess (S t).toList x.toList=true:=h2
 have h3:∀ t,k≤t→Op.bytesLess (S t).toList x.toList=false:=by
  intro t ht
  by_cases e:N.length≤t
  ·rw [s2 t e];exact not_less x
  ·by_cases e2:t=k
   ·rw [e2];exact h1'
   ·rw [s1 t (by omega),bytesLess_eq]
    rw [s1 k (by omega),bytesLess_eq] at h1'
    refine decide_eq_false fun h=>of_decide_eq_false h1' (List.lt_trans (hup k t (by omega) (by omega)) h)
 have hbs:Lib.bsGo (fun t=>Op.bytesLess (S t).toList x.toList) N.length 0 N.length=k:=Lib.bsGo_spec _ k h2 h3 _ _ _ (by omega) (Nat.zero_le _) hk
 rw [hbs]
 rcases where_cases N x with ⟨hw,hn⟩ | ⟨i,hw,hi,he⟩
 ·refine ⟨?_,fun h=>by omega⟩
  rw [hw,decide_eq_false (show ¬ (0:Int)≤-1 by omega)]
  refine decide_eq_false fun h=>?_
  rw [s1 k h.1] at h
  exact hn k h.1 h.2
 ·have hki:k=i:=by
   have hle:k≤i:=by
    apply Nat.le_of_not_lt
    intro h
    have:=h2' i h
    rw [s1 i hi,he,not_less] at this
    cases this
   by_cases e:k=i
   ·exact e
   ·have hlt:=hup k i (by omega) hi
    rw [s1 k (by omega),bytesLess_eq] at h1'
    rw [he] at hlt
    exact absurd hlt (of_decide_eq_false h1')
  subst hki
  refine ⟨?_,fun _=>hw.symm⟩
  rw [hw,decide_eq_true (show (0:Int)≤(k:Int) by omega)]
  exact decide_eq_true ⟨hi,by rw [s1 k hi];exact he⟩
theorem bsearch_any (An:Option Addr) (cn:Nat) (N:List ByteArray) (x:ByteArray) (w:World) (hN:NmV w An cn N) (hr:∀ j,1≤j→j<N.length→downS N j=false) :
  Calls Tryz.prog 115 #[.slice An N.length cn,.string x] w fun e w'=>(∃ i:Nat,e=.returned (.tuple #[.int .i64 i,.bool (decide (0≤whereS N x))])∧(0≤whereS N x→(i:Int)=whereS N x))∧Below w.heap.size w w':=by
 obtain ⟨h1,h2,h3,h4 | ⟨b,o,rfl,h5,h6⟩⟩:=hN
 ·subst h4
  refine (Any2.slices_BinarySearch_string_empty Tryz.lays26 An cn x w).mono ?_
  rintro e w' ⟨rfl,rfl⟩
  exact ⟨⟨0,rfl,fun h=>absurd h (by show ¬ (0:Int)≤whereS [] x;unfold whereS;show ¬ (0:Int)≤-1;omega)⟩,Below.refl _ _⟩
 ·obtain ⟨e1,e2⟩:=bs_where hr x (fun j=>if j<N.length then N.getD j noS else x) rfl
  refine (Any2.slices_BinarySearch_string Tryz.lays26 b o N.length cn (fun j=>if j<N.length then N.getD j noS else x) x w h2 (fun j hj=>by simp only [if_pos hj];exact h6 j hj)).mono ?_
  rintro e w' ⟨rfl,q,rfl⟩
  exact ⟨⟨_,by rw [e1],e2⟩,below_drewN (Below.refl _ _) _⟩
def isC (N:List ByteArray) (C:List (Int×Int)) (x:ByteArray):Int×Int:=if 0≤whereS N x then C.getD (whereS N x).toNat noC else noC
def isE (N:List ByteArray) (x:ByteArray):Int:=if 0≤whereS N x then 0 else 5
set_option maxHeartbeats 1000000 in
theorem value1_any (q r:Nat) (An:Option Addr) (cn:Nat) (N:List ByteArray) (Ac:Option Addr) (cc:Nat) (C:List (Int×Int)) (x:ByteArray) (w:World) (hq:w.cell? ⟨q,0,none⟩=some (.slice An N.length cn)) (hrr:w.cell? ⟨r,0,none⟩=some (.slice Ac C.length cc)) (hN:NmV w An cn N) (hC:CelV w Ac cc C) (hck:ckErr N C=0) :
  Calls Tryz.prog 114 #[.string x,.pointer (some ⟨q,0,none⟩),.pointer (some ⟨r,0,none⟩)] w fun e w'=>e=.returned (.tuple #[.agg #[.int .i64 (isC N C x).1,.int .i64 (isC N C x).2],errV (isE N x)])∧Below w.heap.size w w':=by
 obtain ⟨hlen,-,hr⟩:=ck_right hck
 have hbs:=fun w' (hb:Below w.heap.size w w')=>bsearch_any An cn N x w' (hN.later hb) hr
 have hrl:=World.block_lt_of_cell? _ _ hrr
 have hql:=World.block_lt_of_cell? _ _ hq
 simp only at hrl hql
 by_cases h0:0≤whereS N x
 ·rw [decide_eq_true h0] at hbs
  obtain ⟨i,hi,hil,-⟩:∃ i:Nat,whereS N x=(i:Int)∧i<N.length∧N.getD i noS=x:=by
   rcases where_cases N x with ⟨hw,-⟩ | h
   ·omega
   ·exact h
  obtain ⟨-,-,hC3⟩:=hC
  obtain ⟨b,o,rfl,hCA⟩:=hC3.resolve_left (fun e=>by rw [e] at hlen;simp at hlen;omega)
  obtain ⟨c,hc⟩:∃ c,C.getD i noC=c:=⟨_,rfl⟩
  have hic:isC N C x=c:=by unfold isC;rw [if_pos h0,hi];exact hc
  have hie:isE N x=0:=by unfold isE;rw [if_pos h0]
  have HC:Hid (CelAt w b o C):=hCA
  have HI:Hid (∀ j:Nat,(0≤whereS N x→(j:Int)=whereS N x)→j=i):=fun j hj=>by have:=hj h0;omega
  have HCc:Hid (C.getD i noC=c):=hc
  have hil':(i:Int)<(C.length:Int):=by omega
  rw [hic,hie,errV_zero]
  obtain ⟨m,hm⟩:∃ m,C.length=m:=⟨_,rfl⟩
  have HM:Hid (C.length=m):=hm
  rw [hm] at hrr hil'
  clear hck hN hr hi hic hie hC3 hCA h0 hc hm hil hlen
  go_enter Tryz.func114,Tryz.ntmps114
  go_wp2_with fail
  refine (hbs _ (by go_grown)).mono ?_
  rintro e w1 ⟨⟨j,rfl,hj⟩,hb⟩
  have hji:=HI.out j hj
  subst hji
  obtain ⟨hbc,hbf⟩:=bcell hb
  have hz:=bsize hb
  simp at hz
  have hb1:Below w.heap.size w w1:=onB (by go_grown) hb
  clear hb
  obtain ⟨c0,c1⟩:=HC.out.2 j (by rw [HM.out];omega)
  rw [HCc.out] at c0 c1
  have HB1:Hid (Below w.heap.size w w1):=hb1
  have hbl:b<w.heap.size:=HC.out.1
  clear hb1 hbs hq hj
  go_wp2_with fail
  refine bodyPost_ret (v:=.tuple #[.agg #[.int .i64 c.1,.int .i64 c.2],.nilIface]) (by simp [results,Tryz.results114,go_sem,hbc]) rfl ⟨rfl,?_⟩
  exact ((HB1.out.setCell (Nat.le_refl _) _).setCell (Nat.le_refl _) _)
 ·rw [decide_eq_false h0] at hbs
  have hic:isC N C x=noC:=by unfold isC;rw [if_neg h0]
  have hie:isE N x=5:=by unfold isE;rw [if_neg h0]
  rw [hic,hie,errV_some (by decide)]
  unfold noC
  clear hck hN hr hic hie hC hlen
  go_enter Tryz.func114,Tryz.ntmps114
  go_wp2_with fail
  refine (hbs _ (by go_grown)).mono ?_
  rintro e w1 ⟨⟨j,rfl,hj⟩,hb⟩
  obtain ⟨hbc,hbf⟩:=bcell hb
  have hz:=bsize hb
  simp at hz
  have hb1:Below w.heap.size w w1:=onB (by go_grown) hb
  have HB1:Hid (Below w.heap.size w w1):=hb1
  clear hb hb1 hbs hq hj h0
  go_wp2_with fail
  refine bodyPost_ret (v:=.tuple #[.agg #[.int .i64 0,.int .i64 0],.iface 58 (.int .i64 5)]) (by simp [results,Tryz.results114,go_sem,hbc]) rfl ⟨rfl,?_⟩
  first | exact HB1.out | exact ((HB1.out.setCell (Nat.le_refl _) _).setCell (Nat.le_refl _) _)
end Go.Proofs.YtglekooldbeklaaGreatDoor
