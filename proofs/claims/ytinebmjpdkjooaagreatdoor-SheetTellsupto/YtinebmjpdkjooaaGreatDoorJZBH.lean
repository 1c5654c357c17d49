/-
  Numbers put into a list that rises, one by one: plain data.
-/
import Derived.Test.YtinebmjpdkjooaaGreatDoorJZAZ
import Derived.Test.YtinebmjpdkjooaaGreatDoorJZBG
namespace Go.Proofs.YtinebmjpdkjooaaGreatDoor
theorem put_mem (L:List Int) (n x:Int):x∈putL L n↔x∈L∨x=n:=by
 induction L with
 | nil=>simp [putL]
 | cons y r ih =>
  unfold putL
  split
  ·rw [List.mem_cons,ih,List.mem_cons,or_assoc]
  ·split
   ·rename_i _ h
    constructor
    ·exact Or.inl
    ·rintro (h' | h')
     ·exact h'
     ·rw [h',←h];simp
   ·rw [List.mem_cons]
    exact or_comm
theorem put_rise (L:List Int) (n:Int) (h:L.Pairwise (· < ·)):(putL L n).Pairwise (· < ·):=by
 induction L with
 | nil=>simp [putL]
 | cons y r ih =>
  have h1:=List.pairwise_cons.1 h
  unfold putL
  split
  ·refine List.pairwise_cons.2 ⟨fun z hz=>?_,ih h1.2⟩
   rcases (put_mem r n z).1 hz with e | e
   ·exact h1.1 z e
   ·omega
  ·split
   ·exact h
   ·refine List.pairwise_cons.2 ⟨fun z hz=>?_,h⟩
    rcases List.mem_cons.1 hz with e | e
    ·omega
    ·have:=h1.1 z e;omega
def putsL (d:Dm):List Nd→List Int→List Int
 | [],L=>L
 | x :: r,L=>putsL d r (if x.op=2 then putL L (whL d x.name.data.toList) else L)
theorem puts_rise (d:Dm):∀ (l:List Nd) (L:List Int),L.Pairwise (· < ·)→(putsL d l L).Pairwise (· < ·)
 | [],_,h=>h
 | x :: r,L,h=>by
  unfold putsL
  refine puts_rise d r _ ?_
  split
  ·exact put_rise _ _ h
  ·exact h
theorem puts_mem (d:Dm):∀ (l:List Nd) (L:List Int) (z:Int),z∈putsL d l L↔z∈L∨∃ x∈l,x.op=2∧z=whL d x.name.data.toList
 | [],L,z=>by simp [putsL]
 | x :: r,L,z=>by
  unfold putsL
  rw [puts_mem d r]
  by_cases h:x.op=2
  ·rw [if_pos h,put_mem]
   constructor
   ·rintro ((h1 | h1) | ⟨y,hy,h1⟩)
    ·exact Or.inl h1
    ·exact Or.inr ⟨x,by simp,h,h1⟩
    ·exact Or.inr ⟨y,List.mem_cons_of_mem _ hy,h1⟩
   ·rintro (h1 | ⟨y,hy,h1,h2⟩)
    ·exact Or.inl (Or.inl h1)
    ·rcases List.mem_cons.1 hy with rfl | hy
     ·exact Or.inl (Or.inr h2)
     ·exact Or.inr ⟨y,hy,h1,h2⟩
  ·rw [if_neg h]
   constructor
   ·rintro (h1 | ⟨y,hy,h1⟩)
    ·exact Or.inl h1
    ·exact Or.inr ⟨y,List.mem_cons_of_mem _ hy,h1⟩
   ·rintro (h1 | ⟨y,hy,h1,h2⟩)
    ·exact Or.inl h1
    ·rcases List.mem_cons.1 hy with rfl | hy
     ·exact absurd h1 h
     ·exact Or.inr ⟨y,hy,h1,h2⟩
theorem puts_need {d:Dm} (hd:(dimErr d).2=0) {i:Nat} (hf:(d.mem i).formula.size≠0) (he:mErr d i=0):putsL d (prsL (d.mem i).formula) []=mNd d i:=by
 refine rise_eq _ _ (puts_rise d _ _ List.Pairwise.nil) (sel_rise _ _) fun z=>?_
 rw [puts_mem,need_names hd hf he]
 constructor
 ·rintro (h | ⟨x,hx,h1,h2⟩)
  ·cases h
  ·exact ⟨x.name.data.toList,nms_has hx h1,h2⟩
 ·rintro ⟨nm,h1,h2⟩
  obtain ⟨x,hx,h3,rfl⟩:=has_nms h1
  exact Or.inr ⟨x,hx,h3,h2⟩
def putsP (f:Int→Bool):List Int→List Int→List Int
 | [],L=>L
 | x :: r,L=>putsP f r (if f x=true then putL L x else L)
theorem putsP_rise (f:Int→Bool):∀ (l:List Int) (L:List Int),L.Pairwise (· < ·)→(putsP f l L).Pairwise (· < ·)
 | [],_,h=>h
 | x :: r,L,h=>by
  unfold putsP
  refine putsP_rise f r _ ?_
  split
  ·exact put_rise _ _ h
  ·exact h
theorem putsP_mem (f:Int→Bool):∀ (l:List Int) (L:List Int) (z:Int),z∈putsP f l L↔z∈L∨z∈l∧f z=true
 | [],L,z=>by simp [putsP]
 | x :: r,L,z=>by
  unfold putsP
  rw [putsP_mem f r,List.mem_cons]
  by_cases h:f x=true
  ·rw [if_pos h,put_mem]
   constructor
   ·rintro ((h1 | h1) | ⟨h1,h2⟩)
    ·exact Or.inl h1
    ·exact Or.inr ⟨Or.inl h1,by rw [h1];exact h⟩
    ·exact Or.inr ⟨Or.inr h1,h2⟩
   ·rintro (h1 | ⟨h1 | h1,h2⟩)
    ·exact Or.inl (Or.inl h1)
    ·exact Or.inl (Or.inr h1)
    ·exact Or.inr ⟨h1,h2⟩
  ·rw [if_neg h]
   constructor
   ·rintro (h1 | ⟨h1,h2⟩)
    ·exact Or.inl h1
    ·exact Or.inr ⟨Or.inr h1,h2⟩
   ·rintro (h1 | ⟨h1 | h1,h2⟩)
    ·exact Or.inl h1
    ·rw [h1] at h2;exact absurd h2 h
    ·exact Or.inr ⟨h1,h2⟩
theorem putsP_need {d:Dm} {i:Nat} (hf:(d.mem i).formula.size=0):putsP (sgB d) (partsOf d.mem d.n i) []=mNd d i:=by
 rw [←parts_need hf]
 refine rise_eq _ _ (putsP_rise _ _ _ List.Pairwise.nil) ((sel_rise _ _).filter _) fun z=>?_
 rw [putsP_mem,List.mem_filter]
 simp
theorem puts_snoc (d:Dm) (x:Nd):∀ (l:List Nd) (L:List Int),putsL d (l ++ [x]) L=if x.op=2 then putL (putsL d l L) (whL d x.name.data.toList) else putsL d l L
 | [],L=>by simp [putsL]
 | y :: r,L=>by
  show putsL d (r ++ [x]) _=_
  rw [puts_snoc d x r]
  rfl
theorem putsP_snoc (f:Int→Bool) (x:Int):∀ (l:List Int) (L:List Int),putsP f (l ++ [x]) L=if f x=true then putL (putsP f l L) x else putsP f l L
 | [],L=>by simp [putsP]
 | y :: r,L=>by
  show putsP f (r ++ [x]) _=_
  rw [putsP_snoc f x r]
  rfl
theorem put_len (L:List Int) (n:Int):(putL L n).length≤L.length+1:=by
 induction L with
 | nil=>simp [putL]
 | cons y r ih =>
  unfold putL
  split
  ·simp only [List.length_cons];omega
  ·split <;> simp
theorem put_more {L:List Int} {n:Int} (h:n∉L):(putL L n).length=L.length+1:=by
 induction L with
 | nil=>simp [putL]
 | cons y r ih =>
  have h1:n∉r:=fun e=>h (List.mem_cons_of_mem _ e)
  unfold putL
  split
  ·simp only [List.length_cons,ih h1]
  ·split
   ·rename_i e
    exact absurd (by rw [e];simp) h
   ·simp
def putTo (d:Dm) (l:List Nd) (k:Nat):List Int:=putsL d (l.take k) []
theorem putTo_next {d:Dm} {l:List Nd} {k:Nat} {x:Nd} (hk:k<l.length) (hx:l.getD k noN=x):putTo d l (k+1)=if x.op=2 then putL (putTo d l k) (whL d x.name.data.toList) else putTo d l k:=by
 unfold putTo
 rw [take_snoc l hk,hx,puts_snoc]
theorem putTo_len (d:Dm) (l:List Nd) (k:Nat) (hk:k≤l.length):(putTo d l k).length≤k:=by
 induction k with
 | zero=>simp [putTo,putsL]
 | succ k ih =>
  rw [putTo_next (by omega) rfl]
  have:=ih (by omega)
  split
  ·exact Nat.le_trans (put_len _ _) (by omega)
  ·omega
def partTo (d:Dm) (l:List Int) (k:Nat):List Int:=putsP (sgB d) (l.take k) []
theorem partTo_next {d:Dm} {l:List Int} {k:Nat} {x:Int} (hk:k<l.length) (hx:l.getD k 0=x):partTo d l (k+1)=if sgB d x=true then putL (partTo d l k) x else partTo d l k:=by
 unfold partTo
 have e:l.take (k+1)=l.take k ++ [x]:=by
  rw [List.take_succ_eq_append_getElem hk,←hx,List.getD_eq_getElem?_getD,List.getElem?_eq_getElem hk]
  rfl
 rw [e,putsP_snoc]
theorem partTo_len (d:Dm) (l:List Int) (k:Nat) (hk:k≤l.length):(partTo d l k).length≤k:=by
 induction k with
 | zero=>simp [partTo,putsP]
 | succ k ih =>
  rw [partTo_next (by omega) rfl]
  have:=ih (by omega)
  split
  ·exact Nat.le_trans (put_len _ _) (by omega)
  ·omega
theorem mErr_ref {d:Dm} {i:Nat} (hf:(d.mem i).formula.size≠0) (hp:prsE (d.mem i).formula=0) {x:Nd} (hx:x∈prsL (d.mem i).formula) (h2:x.op=2) (hw:whL d x.name.data.toList<0):mErr d i=5:=by
 unfold mErr
 rw [if_neg hf,if_neg (by simpa using hp),if_pos]
 rw [List.any_eq_true]
 exact ⟨_,nms_has hx h2,decide_eq_true hw⟩
theorem mErr_all {d:Dm} {i:Nat} (hf:(d.mem i).formula.size≠0) (hp:prsE (d.mem i).formula=0) (h:∀ x∈prsL (d.mem i).formula,x.op=2→0≤whL d x.name.data.toList):mErr d i=0:=by
 unfold mErr
 rw [if_neg hf,if_neg (by simpa using hp),if_neg]
 rw [List.any_eq_true]
 rintro ⟨nm,hnm,hw⟩
 obtain ⟨x,hx,h2,rfl⟩:=has_nms hnm
 have:=h x hx h2
 have:=of_decide_eq_true hw
 omega
theorem mErr_prs {d:Dm} {i:Nat} (hf:(d.mem i).formula.size≠0) (hp:prsE (d.mem i).formula≠0):mErr d i=prsE (d.mem i).formula:=by
 unfold mErr
 rw [if_neg hf,if_pos hp]
end Go.Proofs.YtinebmjpdkjooaaGreatDoor
namespace Go.Proofs.YtinebmjpdkjooaaGreatDoor
open Go.ChangeShapes Go.WideShapes Go.ChangeAt Go.RowKit
set_option maxRecDepth 20000
structure CutAt (c:UInt8) (s:ByteArray) (done:List ByteArray) (f k:Nat):Prop where
 le:f≤k
 cut:done.map (·.data.toList) ++ cutB c (s.data.toList.drop f)=cutB c s.data.toList
 free:c∉(s.data.toList.drop f).take (k-f)
theorem cutAt_start (c:UInt8) (s:ByteArray):CutAt c s [] 0 0:=⟨Nat.le_refl _,by simp,by simp⟩
theorem extract_list (s:ByteArray) (a b:Nat):(s.extract a b).data.toList=(s.data.toList.drop a).take (b-a):=Lib.extract_data s a b
theorem byte_at {s:ByteArray} {k:Nat} (hk:k<s.size):s.data.toList[k]?=some s[k]:=by
 rw [List.getElem?_eq_getElem (by simpa using hk)]
 rfl
theorem drop_take {s:ByteArray} {f k:Nat} (hf:f≤k) (hk:k<s.size):s.data.toList.drop f=(s.data.toList.drop f).take (k-f) ++ s[k] :: s.data.toList.drop (k+1):=by
 have hk':k<s.data.toList.length:=by simpa using hk
 have e1:(s.data.toList.drop f).drop (k-f)=s[k] :: s.data.toList.drop (k+1):=by
  rw [List.drop_drop,show f+(k-f)=k by omega,List.drop_eq_getElem_cons hk']
  rfl
 rw [←e1,List.take_append_drop]
theorem CutAt.miss {c:UInt8} {s:ByteArray} {done:List ByteArray} {f k:Nat} (h:CutAt c s done f k) (hk:k<s.size) (hb:s[k]≠c):CutAt c s done f (k+1):=by
 have hf:=h.le
 refine ⟨by omega,h.cut,?_⟩
 have e:=drop_take hf hk
 have hk':k<s.data.toList.length:=by simpa using hk
 have hl:((s.data.toList.drop f).take (k-f)).length=k-f:=by rw [List.length_take,List.length_drop];omega
 have e2:(s.data.toList.drop f).take (k+1-f)=(s.data.toList.drop f).take (k-f) ++ [s[k]]:=by
  rw [show k+1-f=(k-f)+1 by omega,List.take_add_one]
  congr 1
  rw [List.getElem?_drop,show f+(k-f)=k by omega,byte_at hk]
  rfl
 rw [e2,List.mem_append,not_or]
 exact ⟨h.free,by simpa using fun e=>hb e.symm⟩
theorem CutAt.hit {c:UInt8} {s:ByteArray} {done:List ByteArray} {f k:Nat} (h:CutAt c s done f k) (hk:k<s.size) (hb:s[k]=c):CutAt c s (done ++ [s.extract f k]) (k+1) (k+1):=by
 refine ⟨Nat.le_refl _,?_,by simp⟩
 have e:=drop_take h.le hk
 rw [hb] at e
 rw [←h.cut,List.map_append,List.map_singleton,extract_list,List.append_assoc]
 congr 1
 conv=>rhs;rw [e]
 rw [cut_ahead h.free]
 rfl
theorem CutAt.last {c:UInt8} {s:ByteArray} {done:List ByteArray} {f:Nat} (h:CutAt c s done f s.size):done ++ [s.extract f s.size]=piecesC c s:=by
 have hsz:s.data.toList.length=s.size:=by simp
 have hf:=h.le
 have h1:=h.free
 rw [List.take_of_length_le (by rw [List.length_drop];omega)] at h1
 have h2:=h.cut
 rw [cut_none h1] at h2
 unfold piecesC
 rw [←h2,List.map_append,List.map_singleton,List.map_map]
 have e1:∀ l:List ByteArray,l.map ((fun l:List UInt8=>(⟨l.toArray⟩:ByteArray)) ∘ fun x=>x.data.toList)=l:=fun l=>by
  conv=>rhs;rw [←List.map_id l]
  exact List.map_congr_left fun x _=>byte_ext rfl
 rw [e1,byte_ext (x:=s.extract f s.size)]
 rw [extract_list,List.take_of_length_le (by rw [List.length_drop];omega)]
theorem CutAt.len {c:UInt8} {s:ByteArray} {done:List ByteArray} {f k:Nat} (h:CutAt c s done f k):done.length+1≤s.size+1:=by
 have h1:=congrArg List.length h.cut
 rw [List.length_append,List.length_map] at h1
 have h2:=piecesC_le c s
 unfold piecesC at h2
 rw [List.length_map] at h2
 have h3:1≤(cutB c (s.data.toList.drop f)).length:=by rw [cut_count];omega
 omega
def mapS (l:List ByteArray):List Value:=l.map Value.string
theorem mapS_snoc (l:List ByteArray) (x:ByteArray):mapS (l ++ [x])=mapS l ++ [Value.string x]:=by simp [mapS]
theorem one_str {x:ByteArray}:∀ u∈[Value.string x],u.oneCell'=true:=by intro u hu;simp at hu;subst hu;rfl
def StrsAt (w:World) (A:Option Addr) (l:List ByteArray):Prop := ∃ g,A=some ⟨g,0,none⟩∧g<w.heap.size∧∀ j,j<l.length→w.cell? ⟨g,j,none⟩=some (.string (l.getD j ⟨#[]⟩))
theorem strs_of {w:World} {base e:Nat} {v:Value} {l:List ByteArray} (h:w.ownsRow base e 1 v l.length (mapS l)) (hl:1≤l.length):∃ A cap,v=.slice A l.length cap∧l.length≤cap∧StrsAt w A l:=by
 rcases h.2 with ⟨rfl,h0⟩ | ⟨g,cap,cur,rfl,hb,hg,hc,_,_,_⟩
 ·omega
 ·refine ⟨_,cap,rfl,hc,g,rfl,(Array.getElem?_eq_some_iff.1 hg).1,fun j hj=>?_⟩
  have hx:=h.cells (g:=g) rfl j (.string (l.getD j ⟨#[]⟩)) (by simp [mapS,List.getD,List.getElem?_eq_getElem hj])
  have hadd:(⟨g,0,none⟩:Addr).add j=⟨g,j,none⟩:=by unfold Addr.add;split <;> simp_all
  rw [hadd] at hx
  exact hx
set_option maxHeartbeats 4000000 in
theorem rcutc_any (c:UInt8) (s:ByteArray) (w:World) (hs:s.size≤1048576):Calls Tryz.prog 27 #[.string s,.int .u8 (c.toNat:Int)] w fun e w'=>(∃ A cp,e=.returned (.slice A (piecesC c s).length cp)∧(piecesC c s).length≤cp∧StrsAt w' A (piecesC c s))∧Below w.heap.size w w':=by
 obtain ⟨i0,hi0,hz0,hz1,hz2⟩:=info_parts Tryz.infoStr
 have hs':(s.size:Int)≤1048576:=by omega
 go_enter Tryz.func27,Tryz.ntmps27
 go_wp2_with fail
 go_loopg [5,6,7] s.size (fun g s5 s6 s7 wr => ∃ (k f:Nat) (done:List ByteArray),k≤s.size∧g=s.size-k∧s7=.int .i64 k∧s6=.int .i64 f∧CutAt c s done f k∧wr.ownsRow w.heap.size 9 1 s5 done.length (mapS done)∧Below w.heap.size w wr)
 case atStart=>exact ⟨0,0,[],Nat.zero_le _,rfl,rfl,rfl,cutAt_start c s,World.ownsRow_nil _ _ _ _,Below.refl _ _⟩
 case round =>
  obtain ⟨k,f,done,hk,rfl,rfl,rfl,hC,hown,hBw⟩:=hrel
  have HC:Hid (CutAt c s done f k):=hC
  have HW:Hid (Below w.heap.size w wr):=hBw
  have hlen:=hC.len
  have hfk:=hC.le
  have hsz:=hBw.size
  have hfk':(f:Int)≤(k:Int):=by omega
  by_cases hlt:k<s.size
  ·have hki:(k:Int)<(s.size:Int):=by omega
   by_cases hb:s[k]=c
   ·have hbi:((s[k].toNat:Int) == (c.toNat:Int))=true:=by rw [hb];simp
    have HH:Hid (CutAt c s (done ++ [s.extract f k]) (k+1) (k+1)):=hC.hit hlt hb
    clear hC hBw hb
    go_wp2_with (at_builtin;refine wpList_append_own _ rfl _ _ 67 rfl w.heap.size 9 i0 (.string ByteArray.empty) 1 16 Tryz.underlying67 hi0 hz0 hz1 hz2 rfl (by decide) _ _ _ rfl (hown.alloc _) ⟨wr.heap.size,0,none⟩ 1 1 [.string (s.extract f k)] rfl rfl one_cell one_str (by unfold maxLen;omega) (by omega) (by simp;omega) ?_)
    intro v' w2 hown' hgrow _
    have HB2:Hid (Below w.heap.size w w2):=grown_own HW.out hown hgrow
    have HO2:Hid (w2.ownsRow w.heap.size 9 1 v' (done ++ [s.extract f k]).length (mapS (done ++ [s.extract f k]))):=by
     show World.ownsRow ..
     rw [mapS_snoc,List.length_append];exact hown'
    clear hown' hgrow hown
    go_wp2_with fail
    go_roundg (s.size-(k+1))
    case measure=>omega
    case rel=>exact ⟨k+1,k+1,done ++ [s.extract f k],by omega,rfl,by go_num,by go_num,HH.out,HO2.out,HB2.out⟩
   ·have hbn : ¬ (s[k].toNat:Int)=(c.toNat:Int):=fun e=>hb (by
     have e1:s[k].toNat=c.toNat:=by omega
     exact UInt8.toNat_inj.1 e1)
    have hbi:((s[k].toNat:Int) == (c.toNat:Int))=false:=by simpa using hbn
    have HH:Hid (CutAt c s done f (k+1)):=hC.miss hlt hb
    have HO:Hid (wr.ownsRow w.heap.size 9 1 _ done.length (mapS done)):=hown
    clear hC hBw hb hbn hown
    go_wp2_with fail
    go_roundg (s.size-(k+1))
    case measure=>omega
    case rel=>exact ⟨k+1,f,done,by omega,rfl,by go_num,rfl,HH.out,HO.out,HW.out⟩
  ·have hke:k=s.size:=by omega
   subst hke
   have HL:Hid (done ++ [s.extract f s.size]=piecesC c s):=hC.last
   clear hC hBw
   go_wp2_with (at_builtin;refine wpList_append_own _ rfl _ _ 67 rfl w.heap.size 9 i0 (.string ByteArray.empty) 1 16 Tryz.underlying67 hi0 hz0 hz1 hz2 rfl (by decide) _ _ _ rfl (hown.alloc _) ⟨wr.heap.size,0,none⟩ 1 1 [.string (s.extract f s.size)] rfl rfl one_cell one_str (by unfold maxLen;omega) (by omega) (by simp;omega) ?_)
   intro v' w2 hown' hgrow _
   have HB2:Hid (Below w.heap.size w w2):=grown_own HW.out hown hgrow
   have HO2:Hid (w2.ownsRow w.heap.size 9 1 v' (piecesC c s).length (mapS (piecesC c s))):=by
    show World.ownsRow ..
    rw [←HL.out,mapS_snoc,List.length_append];exact hown'
   clear hown' hgrow hown
   go_wp2_with fail
   go_ret
   obtain ⟨A,cp,h1,h2,h3⟩:=strs_of HO2.out (piecesC_pos c s)
   exact ⟨⟨A,cp,by rw [←h1];rfl,h2,h3⟩,HB2.out⟩
theorem rcut_any (s:ByteArray) (w:World) (hs:s.size≤1048576):Calls Tryz.prog 27 #[.string s,.int .u8 46] w fun e w'=>(∃ A c,e=.returned (.slice A (pieces s).length c)∧(pieces s).length≤c∧StrsAt w' A (pieces s))∧Below w.heap.size w w':=rcutc_any 46 s w hs
end Go.Proofs.YtinebmjpdkjooaaGreatDoor
