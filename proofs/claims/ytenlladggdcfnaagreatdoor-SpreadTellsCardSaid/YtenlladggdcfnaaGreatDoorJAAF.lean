/-
  A number on parts by weights: who gets one more is told by the rests alone; sums: plain facts.
-/
import Derived.Test.YtenlladggdcfnaaGreatDoorJAAA
import Derived.Test.YtenlladggdcfnaaGreatDoorJAAE
namespace Go.Proofs.YtenlladggdcfnaaGreatDoor
open Go.Sort
def lkR (n:Int) (W:List Int) (i:Nat):Int:=n*W.getD i 0 % W.sum
def lkQ (n:Int) (W:List Int) (i:Nat):Int:=n*W.getD i 0 / W.sum
def prec (n:Int) (W:List Int) (i j:Nat):Bool:=decide (lkR n W j<lkR n W i∨(lkR n W i=lkR n W j∧i<j))
def PickOk (k:Nat) (pr:Nat→Nat→Bool) (P:Nat→Bool) (t:Nat):Prop:=((List.range k).filter P).length=t∧∀ i j,i<k→j<k→P i=true→P j=false→pr i j=true
def lkO (n:Int) (W:List Int) (P:Nat→Bool):List Int:=(List.range W.length).map fun i=>lkQ n W i+if P i then 1 else 0
def lkL (n:Int) (W:List Int):Int:=n-((List.range W.length).map (lkQ n W)).sum
theorem prec_asym {n:Int} {W:List Int} {i j:Nat} (h:prec n W i j=true):prec n W j i=false:=by
 unfold prec at *
 simp only [decide_eq_true_eq,decide_eq_false_iff_not] at *
 omega
theorem filter_len_lt {k:Nat} {P Q:Nat→Bool} (h:∀ i,i<k→P i=true→Q i=true) {x:Nat} (hx:x<k) (hq:Q x=true) (hp:P x=false):((List.range k).filter P).length<((List.range k).filter Q).length:=by
 have key:∀ l:List Nat,(∀ i∈l,P i=true→Q i=true)→(l.filter P).length≤(l.filter Q).length∧(x∈l→(l.filter P).length<(l.filter Q).length):=by
  intro l
  induction l with
  | nil=>exact fun _=>⟨Nat.le_refl _,fun h=>absurd h (by simp)⟩
  | cons a l ih =>
   intro hl
   obtain ⟨i1,i2⟩:=ih fun i hi=>hl i (List.mem_cons_of_mem _ hi)
   have ha:=hl a (List.mem_cons_self ..)
   refine ⟨?_,fun hm=>?_⟩
   ·cases h1:P a <;> cases h2:Q a <;> simp_all <;> omega
   ·rcases List.mem_cons.1 hm with rfl | hm
    ·simp [hp,hq];omega
    ·have:=i2 hm
     cases h1:P a <;> cases h2:Q a <;> simp_all <;> omega
 exact (key (List.range k) fun i hi=>h i (List.mem_range.1 hi)).2 (List.mem_range.2 hx)
theorem pick_unique {k t:Nat} {pr:Nat→Nat→Bool} (ha:∀ i j,pr i j=true→pr j i=false) {P Q:Nat→Bool} (hP:PickOk k pr P t) (hQ:PickOk k pr Q t):∀ i,i<k→P i=Q i:=by
 have key:∀ {P Q:Nat→Bool},PickOk k pr P t→PickOk k pr Q t→∀ i,i<k→P i=true→Q i=true:=by
  intro P Q hP hQ i hi hp
  cases hq:Q i with
  | true=>rfl
  | false =>
   by_cases hex:∃ j,j<k∧Q j=true∧P j=false
   ·obtain ⟨j,hj,h1,h2⟩:=hex
    have a1:=hP.2 i j hi hj hp h2
    have a2:=hQ.2 j i hj hi h1 hq
    rw [ha i j a1] at a2;cases a2
   ·have:=filter_len_lt (k:=k) (P:=Q) (Q:=P) (fun j hj h=>by
     cases hpj:P j with
     | true=>rfl
     | false=>exact absurd ⟨j,hj,h,hpj⟩ hex) hi hp hq
    rw [hP.1,hQ.1] at this;omega
 intro i hi
 cases hp:P i with
 | true=>exact (key hP hQ i hi hp).symm
 | false =>
  cases hq:Q i with
  | false=>rfl
  | true=>have:=key hQ hP i hi hq;rw [hp] at this;cases this
theorem lkO_unique {n:Int} {W:List Int} {P Q:Nat→Bool} {t:Nat} (hP:PickOk W.length (prec n W) P t) (hQ:PickOk W.length (prec n W) Q t):lkO n W P=lkO n W Q :=
 List.map_congr_left fun i hi=>by rw [pick_unique (fun _ _ h=>prec_asym h) hP hQ i (List.mem_range.1 hi)]
/-! ### sums -/
theorem sum_getD (W:List Int):((List.range W.length).map fun i=>W.getD i 0).sum=W.sum:=by
 have:(List.range W.length).map (fun i=>W.getD i 0)=W:=List.ext_getElem (by simp) fun i h1 h2=>by simp [List.getD_eq_getElem?_getD,List.getElem?_eq_getElem h2]
 rw [this]
theorem sum_add (f g:Nat→Int):∀ l:List Nat,(l.map fun i=>f i+g i).sum=(l.map f).sum+(l.map g).sum
 | []=>by simp
 | a :: l=>by simp only [List.map_cons,List.sum_cons,sum_add f g l];omega
theorem sum_mul (c:Int) (f:Nat→Int):∀ l:List Nat,(l.map fun i=>c*f i).sum=c*(l.map f).sum
 | []=>by simp
 | a :: l=>by simp only [List.map_cons,List.sum_cons,sum_mul c f l,Int.mul_add]
theorem sum_le {f g:Nat→Int}:∀ l:List Nat,(∀ i∈l,f i≤g i)→(l.map f).sum≤(l.map g).sum
 | [],_=>by simp
 | a :: l,h=>by
  have h1:=sum_le l fun i hi=>h i (List.mem_cons_of_mem _ hi)
  have h2:=h a (List.mem_cons_self ..)
  simp only [List.map_cons,List.sum_cons];omega
theorem sum_pick (P:Nat→Bool):∀ l:List Nat,(l.map fun i=>if P i then (1:Int) else 0).sum=((l.filter P).length:Nat)
 | []=>by simp
 | a :: l=>by
  have:=sum_pick P l
  simp only [List.map_cons,List.sum_cons,List.filter_cons,this]
  cases P a <;> simp <;> omega
theorem sum_const (c:Int):∀ l:List Nat,(l.map fun _=>c).sum=(l.length:Int)*c
 | []=>by simp
 | a :: l=>by simp only [List.map_cons,List.sum_cons,sum_const c l,List.length_cons];rw [show ((l.length+1:Nat):Int)=(l.length:Int)+1 by omega,Int.add_mul];omega
theorem lk_rest (n:Int) (W:List Int):W.sum*lkL n W=((List.range W.length).map (lkR n W)).sum:=by
 have h1:((List.range W.length).map fun i=>n*W.getD i 0).sum=n*W.sum:=by rw [sum_mul,sum_getD]
 have h2:((List.range W.length).map fun i=>n*W.getD i 0).sum=W.sum*((List.range W.length).map (lkQ n W)).sum+((List.range W.length).map (lkR n W)).sum:=by
  rw [←sum_mul,←sum_add]
  congr 1
  refine List.map_congr_left fun i _=>?_
  exact (Int.mul_ediv_add_emod (n*W.getD i 0) W.sum).symm
 unfold lkL
 rw [Int.mul_sub]
 have h3:W.sum*n=n*W.sum:=Int.mul_comm _ _
 omega
theorem lkR_pos {n:Int} {W:List Int} (hs:0<W.sum) (i:Nat):0≤lkR n W i∧lkR n W i<W.sum:=⟨Int.emod_nonneg _ (by omega),Int.emod_lt_of_pos _ hs⟩
theorem lkL_ge {n:Int} {W:List Int} (hs:0<W.sum):0≤lkL n W:=by
 have h:=lk_rest n W
 have h2:0≤((List.range W.length).map (lkR n W)).sum:=by
  have:=sum_le (f:=fun _=>0) (g:=lkR n W) (List.range W.length) fun i _=>(lkR_pos hs i).1
  rw [sum_const] at this;omega
 rw [←h] at h2
 exact Int.le_of_mul_le_mul_left (a:=W.sum) (by rw [Int.mul_zero];exact h2) hs
theorem lkL_lt {n:Int} {W:List Int} (hs:0<W.sum) (hk:0<W.length):lkL n W<W.length:=by
 have h:=lk_rest n W
 have h2:((List.range W.length).map (lkR n W)).sum≤(W.length:Int)*(W.sum-1):=by
  have:=sum_le (f:=lkR n W) (g:=fun _=>W.sum-1) (List.range W.length) fun i _=>by have:=(lkR_pos (n:=n) hs i).2;omega
  rw [sum_const,List.length_range] at this;exact this
 refine Int.lt_of_mul_lt_mul_left (a:=W.sum) ?_ (by omega)
 rw [h,Int.mul_comm W.sum]
 rw [Int.mul_sub] at h2
 have:0<(W.length:Int):=by omega
 omega
theorem lkO_sum {n:Int} {W:List Int} {P:Nat→Bool} (hs:0<W.sum) (hP:PickOk W.length (prec n W) P (lkL n W).toNat):(lkO n W P).sum=n:=by
 unfold lkO
 rw [sum_add,sum_pick,hP.1]
 have:=lkL_ge (n:=n) hs
 unfold lkL at *
 omega
theorem pick_rest {n:Int} {W:List Int} {P:Nat→Bool} (hs:0<W.sum) (hP:PickOk W.length (prec n W) P (lkL n W).toNat) {i:Nat} (hi:i<W.length) (hp:P i=true):0<lkR n W i:=by
 have h0:=(lkR_pos (n:=n) hs i).1
 rcases Int.lt_or_eq_of_le h0 with h | h
 ·exact h
 ·exfalso
  have hz:∀ j,j<W.length→lkR n W j≤(if P j then (1:Int) else 0)*(W.sum-1):=fun j hj=>by
   cases hj2:P j with
   | true=>have:=(lkR_pos (n:=n) hs j).2;simp;omega
   | false =>
    have:=hP.2 i j hi hj hp hj2
    unfold prec at this
    simp only [decide_eq_true_eq] at this
    have:=(lkR_pos (n:=n) hs j).1
    simp;omega
  have h1:((List.range W.length).map (lkR n W)).sum≤(((List.range W.length).map fun j=>(if P j then (1:Int) else 0)*(W.sum-1))).sum:=sum_le _ fun j hj=>hz j (List.mem_range.1 hj)
  have h2:(((List.range W.length).map fun j=>(if P j then (1:Int) else 0)*(W.sum-1))).sum=(W.sum-1)*lkL n W:=by
   rw [show (fun j=>(if P j=true then (1:Int) else 0)*(W.sum-1))=fun j=>(W.sum-1)*(if P j=true then (1:Int) else 0) from funext fun j=>Int.mul_comm _ _,sum_mul,sum_pick,hP.1]
   have:=lkL_ge (n:=n) hs
   congr 1;omega
  rw [h2,←lk_rest,Int.sub_mul] at h1
  have h3:0<lkL n W:=by
   have:0<((List.range W.length).filter P).length:=List.length_pos_of_mem (List.mem_filter.2 ⟨List.mem_range.2 hi,hp⟩)
   rw [hP.1] at this;omega
  omega
theorem sum_mem_le:∀ (W:List Int),(∀ x∈W,0≤x)→∀ x∈W,x≤W.sum
 | [],_,x,hx=>absurd hx (by simp)
 | a :: W,h,x,hx=>by
  have hW:0≤W.sum:=by
   have:∀ W:List Int,(∀ x∈W,0≤x)→0≤W.sum:=by
    intro W
    induction W with
    | nil=>simp
    | cons a W ih=>intro h;have:=h a (List.mem_cons_self ..);have:=ih fun x hx=>h x (List.mem_cons_of_mem _ hx);simp only [List.sum_cons];omega
   exact this W fun x hx=>h x (List.mem_cons_of_mem _ hx)
  have ha:=h a (List.mem_cons_self ..)
  rw [List.sum_cons]
  rcases List.mem_cons.1 hx with rfl | hx
  ·omega
  ·have:=sum_mem_le W (fun x hx=>h x (List.mem_cons_of_mem _ hx)) x hx;omega
theorem getD_nonneg {W:List Int} (h:∀ x∈W,0≤x) (i:Nat):0≤W.getD i 0:=by
 rw [List.getD_eq_getElem?_getD]
 cases e:W[i]? with
 | none=>simp
 | some x=>exact h x (List.mem_of_getElem? e)
theorem getD_le {W:List Int} (h:∀ x∈W,0≤x) (hs:0≤W.sum) (i:Nat):W.getD i 0≤W.sum:=by
 rw [List.getD_eq_getElem?_getD]
 cases e:W[i]? with
 | none=>simpa using hs
 | some x=>exact sum_mem_le W h x (List.mem_of_getElem? e)
theorem lkQ_ge {n:Int} {W:List Int} (hn:0≤n) (h:∀ x∈W,0≤x) (hs:0<W.sum) (i:Nat):0≤lkQ n W i:=Int.ediv_nonneg (Int.mul_nonneg hn (getD_nonneg h i)) (by omega)
theorem lkQ_le {n:Int} {W:List Int} (hn:0≤n) (h:∀ x∈W,0≤x) (hs:0<W.sum) (i:Nat):lkQ n W i≤n∧(0<lkR n W i→lkQ n W i<n):=by
 have h1:=Int.mul_ediv_add_emod (n*W.getD i 0) W.sum
 have h2:n*W.getD i 0≤n*W.sum:=Int.mul_le_mul_of_nonneg_left (getD_le h (by omega) i) hn
 have h0:=(lkR_pos (n:=n) hs i).1
 have e:W.sum*n=n*W.sum:=Int.mul_comm _ _
 change W.sum*lkQ n W i+lkR n W i=_ at h1
 refine ⟨Int.le_of_mul_le_mul_left (a:=W.sum) (by omega) hs,fun hr=>Int.lt_of_mul_lt_mul_left (a:=W.sum) (by omega) (by omega)⟩
end Go.Proofs.YtenlladggdcfnaaGreatDoor
namespace Go.Proofs.YtenlladggdcfnaaGreatDoor
open Go.ChangeShapes Go.WideShapes Go.ChangeAt Go.RowKit
set_option maxRecDepth 20000
def AskP (fn q r:Nat) (w:World) (n:Nat) (p:Nat→Bool):Prop := ∀ (i:Nat) (w':World),i<n→Below w.heap.size w w'→Calls Tryz.prog fn #[.int .i64 i,.pointer (some ⟨q,0,none⟩),.pointer (some ⟨r,0,none⟩)] w' fun e w''=>e=.returned (.bool (p i))∧Below w'.heap.size w' w''
set_option maxHeartbeats 2000000 in
theorem places_any (fn q r:Nat) (he:EntersO fn) (A:Option Addr) (n cap:Nat) (p:Nat→Bool) (w:World) (hn:n≤12) (hp:AskP fn q r w n p):Calls Tryz.prog 99 #[.slice A n cap,.func (.func fn) #[] #[.pointer (some ⟨q,0,none⟩),.pointer (some ⟨r,0,none⟩)]] w fun e w'=>(∃ A c,e=.returned (.slice A (selTo p n).length c)∧IntsAt w' A c (selTo p n))∧Below w.heap.size w w':=by
 obtain ⟨i0,hi0,hz0,hz1,hz2⟩:=info_parts Tryz.infoInt
 have HP:Hid (AskP fn q r w n p):=hp
 have hn':(n:Int)≤12:=by omega
 clear hp
 unfold EntersO at he
 go_enter Tryz.func99,Tryz.ntmps99
 go_wp2_with fail
 go_loopg [5,9] n (fun g s5 s9 wr => ∃ (k:Nat),k≤n∧g=n-k∧s9=.int .i64 k∧wr.ownsRow w.heap.size 3 1 s5 (selTo p k).length (mapI (selTo p k))∧Below w.heap.size w wr)
 case atStart=>exact ⟨0,Nat.zero_le _,rfl,rfl,World.ownsRow_nil _ _ _ _,Below.refl _ _⟩
 case round =>
  obtain ⟨k,hk,rfl,rfl,hown,hBw⟩:=hrel
  have HW:Hid (Below w.heap.size w wr):=hBw
  have HO:Hid (wr.ownsRow w.heap.size 3 1 _ (selTo p k).length (mapI (selTo p k))):=hown
  by_cases hlt:k<n
  ·have hki:(k:Int)<(n:Int):=by omega
   have hbd:=HP.out k wr hlt hBw
   clear hBw hown
   cases hb:p k
   ·rw [hb] at hbd
    have HK:Hid (p k=false):=hb
    clear hb
    go_wp2_with fail
    refine hbd.mono ?_
    rintro e w1 ⟨rfl,hb1⟩
    go_wp2_with fail
    go_roundg (n-(k+1))
    case measure=>omega
    case rel=>exact ⟨k+1,by omega,rfl,by go_num,by rw [selTo_miss HK.out];exact own_later HO.out hb1,onB HW.out hb1⟩
   ·rw [hb] at hbd
    have HK:Hid (p k=true):=hb
    have hlen:=selTo_len p k
    clear hb
    go_wp2_with fail
    refine hbd.mono ?_
    rintro e w1 ⟨rfl,hb1⟩
    have hown:=own_later HO.out hb1
    have hB1:=onB HW.out hb1
    have hsz:=hB1.size
    have HB1:Hid (Below w.heap.size w w1):=hB1
    clear hb1 hB1
    go_wp2_with (at_builtin;refine wpList_append_own _ rfl _ _ 22 rfl w.heap.size 3 i0 (.int .i64 0) 1 8 Tryz.underlying22 hi0 hz0 hz1 hz2 rfl (by decide) _ _ _ rfl (hown.alloc _) ⟨w1.heap.size,0,none⟩ 1 1 [.int .i64 k] rfl rfl one_cell one_one (by unfold maxLen;omega) (by omega) (by simp;omega) ?_)
    intro v' w2 hown' hgrow _
    have HB2:Hid (Below w.heap.size w w2):=grown_own HB1.out hown hgrow
    have HO2:Hid (w2.ownsRow w.heap.size 3 1 v' (selTo p (k+1)).length (mapI (selTo p (k+1)))):=by
     show World.ownsRow ..
     rw [selTo_hit HK.out,mapI_snoc,List.length_append];exact hown'
    clear hown' hgrow hown
    go_wp2_with fail
    go_roundg (n-(k+1))
    case measure=>omega
    case rel=>exact ⟨k+1,by omega,rfl,by go_num,HO2.out,HB2.out⟩
  ·have hke:k=n:=by omega
   subst hke
   clear hBw hown
   go_wp2_with fail
   go_ret
   obtain ⟨A,c,h1,h2⟩:=ints_of HO.out
   exact ⟨⟨A,c,by rw [←h1];rfl,h2⟩,HW.out⟩
set_option maxHeartbeats 1000000 in
theorem index_ints (A:Option Addr) (cap:Nat) (L:List Int) (i:Int) (w:World) (hn:L.length≤12) (hL:IntsAt w A cap L):Calls Tryz.prog 104 #[.slice A L.length cap,.int .i64 i] w fun e w'=>e=.returned (.int .i64 (findFrom (fun j=>L.getD j 0 == i) L.length 0))∧Below w.heap.size w w':=by
 obtain ⟨hc,h0 | ⟨b,rfl,hbw,hcell⟩⟩:=hL
 ·subst h0
  simp only [List.length_nil]
  go_enter Tryz.func104,Tryz.ntmps104
  go_wp2_with fail
  refine wp_loop_rounds 1 ?_
  rw [rounds_succ]
  go_wp2_with fail
  go_ret
  exact ⟨rfl,Below.refl _ _⟩
 ·have HC:Hid (∀ j,j<L.length→w.cell? ⟨b,j,none⟩=some (.int .i64 (L.getD j 0))):=hcell
  obtain ⟨p,hp⟩:∃ p:Nat→Bool,p=fun j=>L.getD j 0 == i:=⟨_,rfl⟩
  have HP:Hid (∀ j,p j=(L.getD j 0 == i)):=fun j=>by rw [hp]
  rw [←hp]
  generalize hnn:L.length=n at hn hc HC
  clear hcell hp hnn
  go_enter Tryz.func104,Tryz.ntmps104
  go_wp2_with fail
  go_loopg [8] n (fun g s8 wr => ∃ (k:Nat),k≤n∧g=n-k∧s8=.int .i64 k∧findFrom p (n-k) k=findFrom p n 0∧wr=w)
  case atStart=>exact ⟨0,Nat.zero_le _,rfl,rfl,rfl,rfl⟩
  case round =>
   obtain ⟨k,hk,rfl,rfl,hf,rfl⟩:=hrel
   have HF:Hid (findFrom p (n-k) k=findFrom p n 0):=hf
   clear hf
   by_cases hlt:k<n
   ·have hki:(k:Int)<(n:Int):=by omega
    have hcx:=HC.out k hlt
    have hsk:n-k=(n-(k+1))+1:=by omega
    have hn':(n:Int)≤12:=by omega
    have hpk:=HP.out k
    have HSK:Hid (n-k=(n-(k+1))+1):=hsk
    generalize L.getD k 0=x at hcx hpk
    clear hsk
    cases hb:p k
    ·have HK:Hid (p k=false):=hb
     rw [hb] at hpk
     have hx:(i == x)=false:=by
      have h1:x≠i:=by simpa using hpk.symm
      simpa using fun h:i=x=>h1 h.symm
     clear hb hpk
     go_wp2_with fail
     go_roundg (n-(k+1))
     case measure=>omega
     case rel=>exact ⟨k+1,by omega,rfl,by go_num,by rw [←HF.out,HSK.out,findFrom_miss _ HK.out],rfl⟩
    ·have HK:Hid (p k=true):=hb
     rw [hb] at hpk
     have hx:(i == x)=true:=by
      have h1:x=i:=by simpa using hpk.symm
      simpa using h1.symm
     clear hb hpk
     go_wp2_with fail
     go_ret
     exact ⟨by rw [←HF.out,HSK.out,findFrom_hit _ HK.out];rfl,Below.refl _ _⟩
   ·have hke:k=n:=by omega
    subst hke
    go_wp2_with fail
    go_ret
    exact ⟨by rw [←HF.out,Nat.sub_self];rfl,Below.refl _ _⟩
theorem contains_ints (A:Option Addr) (cap:Nat) (L:List Int) (i:Int) (w:World) (hn:L.length≤12) (hL:IntsAt w A cap L):Calls Tryz.prog 78 #[.slice A L.length cap,.int .i64 i] w fun e w'=>e=.returned (.bool (inB L i))∧Below w.heap.size w w':=by
 have h:=index_ints A cap L i w hn hL
 have HI:Hid (decide (0≤findFrom (fun j=>L.getD j 0 == i) L.length 0)=inB L i):=find_in L i
 generalize findFrom (fun j=>L.getD j 0 == i) L.length 0=f at h HI
 generalize L.length=n at h
 clear hL hn
 go_enter Tryz.func78,Tryz.ntmps78
 go_wp2_with fail
 refine h.mono ?_
 rintro e w1 ⟨rfl,hb1⟩
 go_wp2_with fail
 go_ret
 exact ⟨by rw [←HI.out];rfl,hb1⟩
end Go.Proofs.YtenlladggdcfnaaGreatDoor
