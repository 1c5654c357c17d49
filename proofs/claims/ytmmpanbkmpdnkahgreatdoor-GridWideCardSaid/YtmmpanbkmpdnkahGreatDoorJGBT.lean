/-
  What Print of package cell answers, and what the document's own Show does (over the table of powers of ten alone).
-/
import Derived.Test.YtmmpanbkmpdnkahGreatDoorShelfJ
import Derived.Test.YtmmpanbkmpdnkahGreatDoorJGBP
import Derived.Test.YtmmpanbkmpdnkahGreatDoorJGBQ
import Derived.Test.YtmmpanbkmpdnkahGreatDoorJGBS
namespace Go.Proofs.YtmmpanbkmpdnkahGreatDoor
open Go.ChangeShapes Go.WideShapes Go.ChangeAt Go.RowKit
set_option maxRecDepth 20000
def printP (k n:Int):List UInt8:=if k=0 then [45] else if k=2 then [35] else Lib.itoa n
theorem print_yes (k n:Int) (w:World) (hw:TabE w) (h:good k n=true):Calls Tryz.prog 134 #[.agg #[.int .i64 k,.int .i64 n]] w fun e w'=>e=.returned (.tuple #[.string ⟨(printP k n).toArray⟩,.nilIface])∧Below w.heap.size w w':=by
 have hck:=check_yes h
 unfold printP
 by_cases h0:k=0
 ·subst h0
  rw [if_pos rfl]
  go_enter Tryz.func134,Tryz.ntmps134
  go_wp2_with fail
  refine (hck _).mono ?_
  rintro e w1 ⟨rfl,hb⟩
  have hB:Below w.heap.size w w1:=Below.trans (by go_grown) (hb.mono (by simp))
  obtain ⟨hc,hf⟩:=bcell hb
  go_wp2_with fail
  go_ret2
  exact ⟨rfl,hB⟩
 ·rw [if_neg h0]
  by_cases h2:k=2
  ·subst h2
   rw [if_pos rfl]
   go_enter Tryz.func134,Tryz.ntmps134
   go_wp2_with fail
   refine (hck _).mono ?_
   rintro e w1 ⟨rfl,hb⟩
   have hB:Below w.heap.size w w1:=Below.trans (by go_grown) (hb.mono (by simp))
   obtain ⟨hc,hf⟩:=bcell hb
   go_wp2_with fail
   go_ret2
   exact ⟨rfl,hB⟩
  ·rw [if_neg h2]
   obtain ⟨b1,b2⟩:=good_bd h
   have hi:=fun w hw=>itoaF n w (by omega) (by omega) hw
   generalize Lib.itoa n=t at hi ⊢
   have q0:(k == 0)=false:=by simpa using h0
   have q2:(k == 2)=false:=by simpa using h2
   clear h h0 h2
   go_enter Tryz.func134,Tryz.ntmps134
   go_wp2_with fail
   refine (hck _).mono ?_
   rintro e w1 ⟨rfl,hb⟩
   have hB:Below w.heap.size w w1:=Below.trans (by go_grown) (hb.mono (by simp))
   have hw1:=hw.later hB
   obtain ⟨hc,hf⟩:=bcell hb
   go_wp2_with fail
   refine (hi _ hw1).mono ?_
   rintro e w2 ⟨rfl,hb2⟩
   have hB2:=Below.next hB hb2
   go_wp2_with fail
   go_ret2
   exact ⟨rfl,hB2⟩
def lnB (s:ByteArray) (L:List ByteArray):ByteArray:=⟨(s.data.toList ++ Lib.joinTail [32] (L.map (·.data.toList))).toArray⟩
theorem lnB_join (s:ByteArray) (L:List ByteArray):(⟨(Lib.join ((s :: L).map (·.data.toList)) (ByteArray.mk #[32]).data.toList).toArray⟩:ByteArray)=lnB s L:=by
 unfold lnB
 rw [List.map_cons,Lib.join_cons]
theorem tail_len (m:Nat):∀ L:List ByteArray,(∀ x∈L,x.size≤m)→(Lib.joinTail [32] (L.map (·.data.toList))).length≤L.length*(m+1)
 | [],_=>by simp [Lib.joinTail]
 | x :: r,h=>by
  have h1:=tail_len m r fun y hy=>h y (List.mem_cons_of_mem _ hy)
  have h2:=h x (List.mem_cons_self ..)
  have h3:x.data.toList.length=x.size:=by simp
  simp only [Lib.joinTail,List.map_cons,List.flatten_cons,List.length_append,List.length_cons,List.length_nil,Nat.add_mul] at h1 ⊢
  omega
theorem Tryz.extra156:Builder.Extra Tryz.prog Tryz.lays156_ren:={
 sizeBuilder:=by kernel_rfl
 liesBuilder:=by kernel_rfl
 t5:=Tryz.underlying5
 a5:=Tryz.isAgg5
 z5:=Tryz.sizeOf5
 v5:=Tryz.zeroValue5
 infoByte:=by kernel_rfl
 cellsByte:=by kernel_rfl
 sizeByte:=by kernel_rfl
 neB5:=by decide }
theorem str_cells {w:World} {base n:Nat} {v:Value} {L:List ByteArray} (h:w.ownsRow base 9 1 v n (L.map Value.string)) (hn:L.length=n):(v=.slice none 0 0∧L=[])∨∃ g c,v=.slice (some ⟨g,0,none⟩) n c∧n≤c∧c≤9223372036854775807∧g<w.heap.size∧∀ (j:Nat) x,L[j]?=some x→w.cell? ⟨g,0+j,none⟩=some (.string x):=by
 rcases h.2 with ⟨h1,h0⟩ | ⟨g,cap,cur,rfl,hb,hg,h4,h5,-,-⟩
 ·exact Or.inl ⟨h1,List.eq_nil_of_length_eq_zero (by omega)⟩
 ·refine Or.inr ⟨g,cap,rfl,h4,by unfold maxLen at h5;omega,(Array.getElem?_eq_some_iff.1 hg).1,fun j x hj=>?_⟩
  have:=h.cells (g:=g) rfl j (.string x) (by rw [List.getElem?_map,hj];rfl)
  rw [plain_add] at this
  exact this
set_option maxHeartbeats 4000000 in
theorem gline_any (s:ByteArray) (v:Value) (base l:Nat) (L:List ByteArray) (w:World) (hs:s.size≤30) (hl:L.length=l) (hL:l≤1048576) (hx:∀ x∈L,x.size≤30) (hO:w.ownsRow base 9 1 v l (L.map Value.string)) :
  Calls Tryz.prog 82 #[.string s,v] w fun e w'=>e=.returned (.string (lnB s L))∧Below w.heap.size w w':=by
 obtain ⟨i0,hi0,hz0,hz1,hz2⟩:=info_parts Tryz.infoStrF
 have hjn:∀ (g c:Nat) (w':World),(∀ (j:Nat) x,(s :: L)[j]?=some x→w'.cell? ⟨g,0+j,none⟩=some (.string x))→g<w'.heap.size→l+1≤c→Calls Tryz.prog 133 #[.slice (some ⟨g,0,none⟩) (l+1) c,.string ⟨#[32]⟩] w' fun e w''=>e=.returned (.string (lnB s L))∧Below w'.heap.size w' w'':=fun g c w' h1 h2 h3=>by
  have h:=Any.strings_Join Tryz.lays156 Tryz.extra156 g 0 c (s :: L) ⟨#[32]⟩ w' h1 h2 (by simp;omega) (by simp;omega) (by
   rw [List.map_cons,Lib.join_cons,List.length_append]
   have h4:=tail_len 30 L hx
   have h5:s.data.toList.length=s.size:=by simp
   have h6:(Lib.joinTail (ByteArray.mk #[32]).data.toList (L.map (·.data.toList))).length≤L.length*31:=h4
   omega)
  rw [lnB_join,List.length_cons,hl] at h
  exact h
 have HJ:=hid_of hjn
 have HL:=hid_of hl
 have hB0:Below w.heap.size w (w.alloc (.cells #[.string s] 9)):=by go_grown
 rcases str_cells hO hl with ⟨rfl,rfl⟩ | ⟨g,c,rfl,hc,hc2,hg,hcl⟩
 ·have hl0:l=0:=by simpa using hl.symm
  have HA:Hid (∀ (w':World),Below (w.alloc (.cells #[.string s] 9)).heap.size (w.alloc (.cells #[.string s] 9)) w'→Calls Tryz.prog 133 #[.slice (some ⟨w.heap.size,0,none⟩) 1 1,.string ⟨#[32]⟩] w' fun e w''=>e=.returned (.string (lnB s []))∧Below w'.heap.size w' w''):=fun w' hB=>by
   have h:=hjn w.heap.size 1 w' (fun j x hj=>by
    match j,hj with
    | 0,hj =>
     cases hj
     exact (hB.cell (p:=⟨w.heap.size,0,none⟩) (by simp)).trans ((Lib.cell_of_heap (heap_alloc_new w _) 0).trans rfl)) (by have:=hB.size;simp at this;omega) (by omega)
   rw [hl0] at h
   exact h
  clear hx hO hjn hl hL HJ HL hl0
  go_enter Tryz.func82,Tryz.ntmps82
  go_wp2_with (at_builtin;refine wpList_append_own_none rfl _ _ 84 rfl w.heap.size 9 i0 1 Tryz.underlying84 hi0 _ 1 [.string s] rfl (World.ownsRow_lit w #[.string s] 1 (Nat.le_refl _) (by unfold maxLen;omega) (by simp)) rfl ?_)
  go_wp2_with fail
  refine (HA.out _ (Below.refl _ _)).mono ?_
  rintro e w2 ⟨rfl,hb2⟩
  go_wp2_with fail
  go_ret
  exact ⟨rfl,onB hB0 hb2⟩
 ·have hnw:∀ j u,(L.map Value.string)[j]?=some u→(w.alloc (.cells #[.string s] 9)).cell? ((⟨g,0,none⟩:Addr).add j)=some u:=fun j u hj=>by
   rw [List.getElem?_map] at hj
   cases h:L[j]? with
   | none=>rw [h] at hj;cases hj
   | some x =>
    rw [h] at hj
    cases hj
    rw [plain_add]
    exact Lib.cell?_alloc_some _ (hcl j x h)
  have HNw:=hid_of hnw
  have h1:∀ u∈L.map Value.string,u.oneCell'=true:=fun u hu=>by obtain ⟨x,-,rfl⟩:=List.mem_map.1 hu;rfl
  have H1:=hid_of h1
  have hml:(L.map Value.string).length=l*1:=by simp [hl]
  have HMl:=hid_of hml
  clear hx hO hjn hl hcl hnw h1 hml
  go_enter Tryz.func82,Tryz.ntmps82
  go_wp2_with (at_builtin;refine wpList_append_own _ rfl _ _ 84 rfl w.heap.size 9 i0 (.string ⟨#[]⟩) 1 16 Tryz.underlying84 hi0 hz0 hz1 hz2 rfl (by decide) _ 1 [.string s] rfl (World.ownsRow_lit w #[.string s] 1 (Nat.le_refl _) (by unfold maxLen;omega) (by simp)) ⟨g,0,none⟩ l c (L.map Value.string) rfl ?q1 ?q2 ?q3 ?q4 ?q5 ?q6 ?_)
  case q1=>exact HMl.out
  case q2=>exact HNw.out
  case q3=>exact H1.out
  case q4=>unfold maxLen;omega
  case q5=>omega
  case q6=>simp
  intro v' w1 hown hgrow _
  have HB1:Hid (Below w.heap.size w w1):=hB0.grown hgrow (by simp) (by intro k hk;simp [Value.ownBlock] at hk;omega)
  have hown':w1.ownsRow w.heap.size 9 1 v' (1+l) ((s :: L).map Value.string):=hown
  rcases str_cells hown' (by rw [List.length_cons,HL.out];omega) with ⟨-,h0⟩ | ⟨g2,c2,rfl,hc3,-,hg2,hcl2⟩
  ·cases h0
  rw [Nat.add_comm 1 l]
  have hj:=HJ.out g2 c2 w1 hcl2 hg2 (by omega)
  clear hown hown' hgrow hcl2
  go_wp2_with fail
  refine hj.mono ?_
  rintro e w2 ⟨rfl,hb2⟩
  go_wp2_with fail
  go_ret
  exact ⟨rfl,onB HB1.out hb2⟩
def gnm (M:Nat→Mem) (K:List Int):List ByteArray:=K.map fun k=>(M k.toNat).name
def txB (x:Int×Int):ByteArray:=⟨(printP x.1 x.2).toArray⟩
theorem txB_size {x:Int×Int} (h:good x.1 x.2=true):(txB x).size≤30:=by
 obtain ⟨b1,b2⟩:=good_bd h
 have h1:=Lib.itoa_length_le x.2 (by omega) (by omega)
 have e:(txB x).size=(printP x.1 x.2).length:=by
  unfold txB
  show (List.toArray _).size=_
  rw [List.size_toArray]
 rw [e]
 unfold printP
 split
 ·decide
 ·split
  ·decide
  ·omega
theorem mapS_take {α β:Type} (f:α→β) (L:List α) (d:α) {k:Nat} (h:k<L.length):(L.map f).take (k+1)=(L.map f).take k ++ [f (L.getD k d)]:=by
 rw [List.take_succ_eq_append_getElem (by simpa using h)]
 simp [List.getD,h]
set_option maxHeartbeats 4000000 in
theorem gnames_any (b o m cm:Nat) (M:Nat→Mem) (Ac:Option Addr) (cc:Nat) (K:List Int) (w:World) (hm:m≤12) (hK:K.length≤1048576) (hin:∀ k∈K,∃ j:Nat,k=j∧j<m) (hM:MemsAt w b o m M) (hP:PlAt w Ac cc K) :
  Calls Tryz.prog 83 #[.slice (some ⟨b,o,none⟩) m cm,.slice Ac K.length cc] w fun e w'=>(∃ v,e=.returned v∧w'.ownsRow w.heap.size 9 1 v K.length ((gnm M K).map Value.string))∧Below w.heap.size w w':=by
 obtain ⟨i0,hi0,hz0,hz1,hz2⟩:=info_parts Tryz.infoStrF
 have HM:=hid_of hM
 have HP:=hid_of hP
 have HIn:=hid_of hin
 obtain ⟨G,hG⟩:∃ G,(gnm M K).map Value.string=G:=⟨_,rfl⟩
 have HTk:Hid (∀ k,k<K.length→G.take (k+1)=G.take k ++ [.string (M (K.getD k 0).toNat).name]):=fun k hk=>by
  rw [←hG]
  unfold gnm
  rw [List.map_map]
  exact mapS_take _ K 0 hk
 have HGl:Hid (G.length=K.length):=by show _=_;rw [←hG];simp [gnm]
 rw [hG]
 obtain ⟨N,hN⟩:∃ N,K.length=N:=⟨_,rfl⟩
 have HN:=hid_of hN
 rw [hN] at hK HTk HGl ⊢
 have hNI:(N:Int)≤1048576:=by omega
 have hmI:(m:Int)≤12:=by omega
 clear hM hP hin hG hN
 go_enter Tryz.func83,Tryz.ntmps83
 go_wp2_with fail
 go_loopg [5,10] N (fun gg s5 s10 wr => ∃ (k:Nat) (v:Value),k≤N∧gg=N-k∧s10=.int .i64 k∧v=s5∧Hid (wr.ownsRow w.heap.size 9 1 v k (G.take k))∧Hid (Below w.heap.size w wr))
 case atStart=>exact ⟨0,_,Nat.zero_le _,rfl,rfl,rfl,hid_of (by simpa using World.ownsRow_nil _ _ _ _),hid_of (Below.refl _ _)⟩
 case round =>
  obtain ⟨k,v,hk,rfl,rfl,rfl,HO,HB⟩:=hrel
  by_cases hlt:k<N
  ·have hkK:k<K.length:=by rw [HN.out];exact hlt
   have hki:(k:Int)<(N:Int):=by omega
   obtain ⟨hcc,h0 | ⟨bk,ok,rfl,hbk,hcl⟩⟩:=HP.out.later HB.out
   ·rw [h0] at hkK;simp at hkK
   have ck:=hcl k hkK
   obtain ⟨j,hj,hjm⟩:=HIn.out _ (getD_memI hkK)
   have HT:=hid_of (HTk.out k hlt)
   rw [hj] at ck HT
   simp only [Int.toNat_natCast] at HT
   obtain ⟨n0,-,-,-⟩:=(HM.out.later HB.out).2 j hjm
   have hbm:=(HM.out.later HB.out).1
   have hjI:(j:Int)<(m:Int):=by omega
   rw [HN.out] at hcc
   have hO2:=HO.out
   have hsz:=HB.out.size
   generalize (M j).name=x at n0 HT
   clear hcl hj
   go_wp2_with (at_builtin;refine wpList_append_own _ rfl _ _ 84 rfl w.heap.size 9 i0 (.string ⟨#[]⟩) 1 16 Tryz.underlying84 hi0 hz0 hz1 hz2 rfl (by decide) _ _ _ rfl (hO2.alloc _) ⟨wr.heap.size,0,none⟩ 1 1 [.string x] rfl rfl one_cell (by intro u hu;simp at hu;subst hu;rfl) (by unfold maxLen;omega) (by omega) (by simp;omega) ?_)
   intro v' w3 hown' hgrow _
   have HB3:Hid (Below w.heap.size w w3):=grown_own HB.out hO2 hgrow
   have HO3:Hid (w3.ownsRow w.heap.size 9 1 v' (k+1) (G.take (k+1))):=by
    show World.ownsRow ..
    rw [HT.out]
    exact hown'
   clear hown' hgrow hO2
   go_wp2_with fail
   go_roundg (N-(k+1))
   case measure=>omega
   case rel=>exact ⟨k+1,_,by omega,rfl,by go_num,rfl,HO3,HB3⟩
  ·have hke:k=N:=by omega
   subst hke
   have HO3:Hid (wr.ownsRow w.heap.size 9 1 v k G):=by
    have:=HO.out
    rw [List.take_of_length_le (by rw [HGl.out];exact Nat.le_refl _)] at this
    exact this
   go_wp2_with fail
   go_ret
   exact ⟨⟨v,rfl,HO3.out⟩,HB.out⟩
set_option maxHeartbeats 4000000 in
theorem gtexts_any (A:Option Addr) (c:Nat) (L:List (Int×Int)) (w:World) (hL:L.length≤1048576) (hg:goodL L) (hE:TabE w) (hV:CelV w A c L) :
  Calls Tryz.prog 84 #[.slice A L.length c] w fun e w'=>(∃ v,e=.returned (.tuple #[v,.nilIface])∧w'.ownsRow w.heap.size 9 1 v L.length ((L.map txB).map Value.string))∧Below w.heap.size w w':=by
 obtain ⟨i0,hi0,hz0,hz1,hz2⟩:=info_parts Tryz.infoStrF
 have HV:=hid_of hV
 have HE:=hid_of hE
 have HGd:=hid_of hg
 obtain ⟨G,hG⟩:∃ G,(L.map txB).map Value.string=G:=⟨_,rfl⟩
 have HTk:Hid (∀ k,k<L.length→G.take (k+1)=G.take k ++ [.string (txB (L.getD k noC))]):=fun k hk=>by
  rw [←hG,List.map_map]
  exact mapS_take _ L noC hk
 have HGl:Hid (G.length=L.length):=by show _=_;rw [←hG];simp
 rw [hG]
 obtain ⟨N,hN⟩:∃ N,L.length=N:=⟨_,rfl⟩
 have HN:=hid_of hN
 rw [hN] at hL HTk HGl ⊢
 have hNI:(N:Int)≤1048576:=by omega
 clear hV hE hg hG hN
 go_enter Tryz.func84,Tryz.ntmps84
 go_wp2_with fail
 go_loopg [4,11] N (fun gg s4 s11 wr => ∃ (k:Nat) (v:Value),k≤N∧gg=N-k∧s11=.int .i64 k∧v=s4∧Hid (wr.ownsRow w.heap.size 9 1 v k (G.take k))∧Hid (Below w.heap.size w wr))
 case atStart=>exact ⟨0,_,Nat.zero_le _,rfl,rfl,rfl,hid_of (by simpa using World.ownsRow_nil _ _ _ _),hid_of (Below.refl _ _)⟩
 case round =>
  obtain ⟨k,v,hk,rfl,rfl,rfl,HO,HB⟩:=hrel
  by_cases hlt:k<N
  ·have hkK:k<L.length:=by rw [HN.out];exact hlt
   have hki:(k:Int)<(N:Int):=by omega
   obtain ⟨hcc,-,h0 | ⟨bk,ok,rfl,hAt⟩⟩:=HV.out.later HB.out
   ·rw [h0] at hkK;simp at hkK
   obtain ⟨x0,x1⟩:=hAt.2 k hkK
   have hbk:=hAt.1
   have HT:=hid_of (HTk.out k hlt)
   have hgk:good (L.getD k noC).1 (L.getD k noC).2=true:=HGd.out _ (celD_mem hkK)
   unfold txB at HT
   rw [HN.out] at hcc
   generalize (L.getD k noC).1=va at x0 HT hgk
   generalize (L.getD k noC).2=vb at x1 HT hgk
   obtain ⟨y,hy⟩:∃ y,wr.alloc (.cells #[.int .i64 va,.int .i64 vb] 40)=y:=⟨_,rfl⟩
   have hBy:Below wr.heap.size wr y:=by rw [←hy];go_grown
   have hyb:y.heap[wr.heap.size]?=some (.cells #[.int .i64 va,.int .i64 vb] 40 (0,0)):=by rw [←hy];exact heap_alloc_new ..
   obtain ⟨y0,y1,-,-⟩:=pair_at hyb
   have HBy:=hid_of (onB HB.out hBy)
   have HOy:=hid_of (own_later HO.out hBy)
   have hpr:=print_yes va vb y (HE.out.later HBy.out) hgk
   generalize (⟨(printP va vb).toArray⟩:ByteArray)=x at hpr HT
   clear hyb hBy hAt hgk
   go_wp2_with fail
   refine hpr.mono ?_
   rintro e w2 ⟨rfl,hb2⟩
   have HB2:=hid_of (onB HBy.out hb2)
   have hO2:=own_later HOy.out hb2
   have hsz:=HB2.out.size
   clear hb2 hpr
   go_wp2_with (at_builtin;refine wpList_append_own _ rfl _ _ 84 rfl w.heap.size 9 i0 (.string ⟨#[]⟩) 1 16 Tryz.underlying84 hi0 hz0 hz1 hz2 rfl (by decide) _ _ _ rfl (hO2.alloc _) ⟨w2.heap.size,0,none⟩ 1 1 [.string x] rfl rfl one_cell (by intro u hu;simp at hu;subst hu;rfl) (by unfold maxLen;omega) (by omega) (by simp;omega) ?_)
   intro v' w3 hown' hgrow _
   have HB3:Hid (Below w.heap.size w w3):=grown_own HB2.out hO2 hgrow
   have HO3:Hid (w3.ownsRow w.heap.size 9 1 v' (k+1) (G.take (k+1))):=by
    show World.ownsRow ..
    rw [HT.out]
    exact hown'
   clear hown' hgrow hO2
   go_wp2_with fail
   go_roundg (N-(k+1))
   case measure=>omega
   case rel=>exact ⟨k+1,_,by omega,rfl,by go_num,rfl,HO3,HB3⟩
  ·have hke:k=N:=by omega
   subst hke
   have HO3:Hid (wr.ownsRow w.heap.size 9 1 v k G):=by
    have:=HO.out
    rw [List.take_of_length_le (by rw [HGl.out];exact Nat.le_refl _)] at this
    exact this
   go_wp2_with fail
   go_returns
   exact ⟨⟨v,rfl,HO3.out⟩,HB.out⟩
def SqA (g h:Nat) (i:Nat):Option Addr:=if i=0 then some ⟨g,0,none⟩ else some ⟨h,0,none⟩
def SqC (c d:Nat) (i:Nat):Nat:=if i=0 then c else d
theorem new_cell (w:World) (a:Addr) (u:Value) (cs:Array Value) (t j:Nat):((w.setCell a u).alloc (.cells cs t)).cell? ⟨w.heap.size,j,none⟩=cs[j]?:=by
 have h:=heap_alloc_new (w.setCell a u) (.cells cs t)
 have e:(w.setCell a u).heap.size=w.heap.size:=by simp [World.setCell]
 rw [e] at h
 exact Lib.cell_of_heap h j
theorem new_mem {w:World} {a:Addr} {u:Value} {o:Obj} {g n:Nat} (h:MemB w g n) (hne:g≠a.block):MemB ((w.setCell a u).alloc o) g n:=by
 have e:(w.setCell a u).heap.size=w.heap.size:=by simp [World.setCell]
 refine h.same ?_
 rw [Below.heap_alloc _ _ _ (by rw [e];exact h.lt),Below.heap_setCell _ _ _ _ hne]
set_option maxHeartbeats 4000000 in
theorem square_any (n:Nat) (w:World) (hn:n≤12):Calls Tryz.prog 10 #[.int .i64 n] w fun e w'=>(∃ A0 A C,e=.returned (.agg #[.slice A0 2 2])∧DimsV w' A0 2 2 (squareD n) A C)∧Below w.heap.size w w':=by
 have h1:=flat_any ⟨#[120]⟩ n (ownOut w none 0 0 30) hn
 have HB0:Hid (Below w.heap.size w (ownOut w none 0 0 30)):=ownOut_below ..
 go_enter Tryz.func10,Tryz.ntmps10
 go_wp2_with fail
 refine h1.mono ?_
 rintro e w1 ⟨⟨g1,k1,rfl,hc1,hg1,hM1⟩,hb1⟩
 have hB1:=onB HB0.out hb1
 have hz1:w.heap.size<w1.heap.size:=by have:=hb1.size;rw [ownOut_size] at this;omega
 have c1:w1.cell? ⟨w.heap.size,0,none⟩=some (.slice none 0 0):=(hb1.cell (p:=⟨w.heap.size,0,none⟩) (by show w.heap.size<_;rw [ownOut_size];omega)).trans (ownOut_at ..)
 have f1:w1.frozen? ⟨w.heap.size,0,none⟩=false:=(hb1.frozen (p:=⟨w.heap.size,0,none⟩) (by show w.heap.size<_;rw [ownOut_size];omega)).trans (by unfold ownOut;exact World.frozen?_alloc_at _ _ _ _ rfl)
 have h2:=flat_any ⟨#[121]⟩ n w1 hn
 clear h1 hb1
 go_wp2_with fail
 refine h2.mono ?_
 rintro e w2 ⟨⟨g2,k2,rfl,hc2,hg2,hM2⟩,hb2⟩
 have hB2:=onB hB1 hb2
 have hz2:w.heap.size<w2.heap.size:=Nat.lt_of_lt_of_le hz1 hb2.size
 have c2:=(hb2.cell (p:=⟨w.heap.size,0,none⟩) hz1).trans c1
 have f2:=(hb2.frozen (p:=⟨w.heap.size,0,none⟩) hz1).trans f1
 have HM1:Hid (MemB w2 g1 (n+1)):=hM1.later hb2
 have HM2:Hid (MemB w2 g2 (n+1)):=hM2
 have HB2:Hid (Below w.heap.size w w2):=hB2
 clear c1 f1 h2 hM1 hM2 hb2 hB1 hB2
 go_wp2_with fail
 rw [ownOut_size] at hg1
 have hq:∀ v o,((w2.setCell ⟨w.heap.size,0,none⟩ v).alloc o).cell? ⟨w.heap.size,0,none⟩=some v:=fun v o=>by
  rw [World.cell?_alloc_lt _ _ ⟨w.heap.size,0,none⟩ (by show w.heap.size<_;simp [World.setCell];exact hz2),World.cell?_setCell_same _ _ _ c2]
 refine bodyPost_ret (v:=.agg #[.slice (some ⟨w2.heap.size,0,none⟩) 2 2]) (by simp [results,Tryz.results10,go_sem,hq]) rfl ⟨⟨some ⟨w2.heap.size,0,none⟩,SqA g1 g2,SqC k1 k2,rfl,Nat.le_refl _,Or.inr ⟨_,_,rfl,by simp [World.setCell],fun i hi=>?_⟩⟩,?_⟩
 ·match i,hi with
  | 0,_=>exact ⟨new_cell _ _ _ _ _ 0,new_cell _ _ _ _ _ 1,new_cell _ _ _ _ _ 2,hc1,Or.inr ⟨g1,0,rfl,(new_mem HM1.out (by show g1≠w.heap.size;omega)).2⟩⟩
  | 1,_=>exact ⟨new_cell _ _ _ _ _ 3,new_cell _ _ _ _ _ 4,new_cell _ _ _ _ _ 5,hc2,Or.inr ⟨g2,0,rfl,(new_mem HM2.out (by show g2≠w.heap.size;omega)).2⟩⟩
 ·exact (HB2.out.setCell (Nat.le_refl _) _).alloc (by simp [World.setCell];omega) _
end Go.Proofs.YtmmpanbkmpdnkahGreatDoor
namespace Go.Proofs.YtmmpanbkmpdnkahGreatDoor
open Go.ChangeShapes Go.WideShapes Go.ChangeAt Go.RowKit
theorem ens_none (w:World):EnsV w none 0 []:=EnsV.nil w none 0 (Nat.zero_le _)
end Go.Proofs.YtmmpanbkmpdnkahGreatDoor
