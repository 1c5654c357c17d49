/-
  Cells joined by an op; names, and where one of them is; what is wrong with names and cells: plain data.
-/
import Derived.Sort.Walk0
import Derived.Test.YtigkeokacagabafGreatDoorJYAK
import Derived.Test.YtigkeokacagabafGreatDoorJYAM
namespace Go.Proofs.YtigkeokacagabafGreatDoor
def noS:ByteArray:=⟨#[]⟩
def okC (c:Int×Int):Prop:=good c.1 c.2=true
theorem okC_no:okC noC:=rfl
theorem okC_ofP (n:Int):okC (ofP n):=by
 unfold okC ofP good
 split
 ·rename_i h;simp [h.1,h.2]
 ·simp
theorem okC_quo (x y:Int):okC (quoP x y):=by
 unfold quoP
 split
 ·rfl
 ·exact okC_ofP _
theorem okC_join (b:Bool) (ka kb:Int) {r:Int×Int} (h:okC r):okC (joinP b ka kb r):=by
 unfold joinP
 split
 ·rfl
 ·split
  ·rfl
  ·exact h
def opP (o:Int) (a b:Int×Int):Int×Int:=if o=3 then plusP a.1 a.2 b.1 b.2 else if o=4 then minusP a.1 a.2 b.1 b.2 else if o=5 then timesP a.1 a.2 b.1 b.2 else overP a.1 a.2 b.1 b.2
theorem opP_ok (o:Int) (a b:Int×Int):okC (opP o a b):=by
 unfold opP
 split
 ·exact okC_join _ _ _ (okC_ofP _)
 ·split
  ·exact okC_join _ _ _ (okC_ofP _)
  ·split
   ·exact okC_join _ _ _ (okC_ofP _)
   ·exact okC_join _ _ _ (okC_quo _ _)
def isS (N:List ByteArray) (s:ByteArray) (i:Nat):Bool:=decide (N.getD i noS=s)
def whereS (N:List ByteArray) (s:ByteArray):Int:=findFrom (isS N s) N.length 0
theorem where_cases (N:List ByteArray) (s:ByteArray):(whereS N s = -1∧∀ j,j<N.length→N.getD j noS≠s)∨∃ i:Nat,whereS N s=(i:Int)∧i<N.length∧N.getD i noS=s:=by
 unfold whereS
 rcases findFrom_cases (isS N s) N.length 0 with ⟨h1,h2⟩ | ⟨m,h1,h2,h3,h4,h5⟩
 ·left
  refine ⟨h1,fun j hj=>?_⟩
  have:=h2 j (Nat.zero_le _) (by omega)
  simpa [isS] using this
 ·right
  exact ⟨m,h1,by omega,of_decide_eq_true h4⟩
def downS (N:List ByteArray) (i:Nat):Bool:=Op.bytesLess (N.getD i noS).toList (N.getD (i-1) noS).toList || (N.getD i noS).toList == (N.getD (i-1) noS).toList
def ckErr (N:List ByteArray) (C:List (Int×Int)):Int:=if C.length≠N.length then 3 else if 0≤findFrom (goodB C) C.length 0 then 1 else if 0≤findFrom (downS N) (N.length-1) 1 then 7 else 0
theorem ck_shape {N:List ByteArray} {C:List (Int×Int)} (h:C.length≠N.length):ckErr N C=3:=by unfold ckErr;rw [if_pos h]
theorem ck_cell {N:List ByteArray} {C:List (Int×Int)} (h:C.length=N.length) {i:Nat} (hi:i<C.length) (hb:goodB C i=true):ckErr N C=1:=by
 unfold ckErr
 rw [if_neg (by simpa using h)]
 rcases findFrom_cases (goodB C) C.length 0 with ⟨_,h5⟩ | ⟨m,e,_⟩
 ·rw [h5 i (Nat.zero_le _) (by omega)] at hb;cases hb
 ·rw [e,if_pos (by omega)]
theorem ck_down {N:List ByteArray} {C:List (Int×Int)} (h:C.length=N.length) (hg:∀ j,j<C.length→goodB C j=false) {i:Nat} (h1:1≤i) (hi:i<N.length) (hb:downS N i=true):ckErr N C=7:=by
 unfold ckErr
 rw [if_neg (by simpa using h),findFrom_none (fun j _ hj=>hg j (by omega)),if_neg (by omega)]
 rcases findFrom_cases (downS N) (N.length-1) 1 with ⟨_,h5⟩ | ⟨m,e,_⟩
 ·rw [h5 i h1 (by omega)] at hb;cases hb
 ·rw [e,if_pos (by omega)]
theorem ck_good {N:List ByteArray} {C:List (Int×Int)} (h:C.length=N.length) (hg:∀ j,j<C.length→goodB C j=false) (hd:∀ j,1≤j→j<N.length→downS N j=false):ckErr N C=0:=by
 unfold ckErr
 rw [if_neg (by simpa using h),findFrom_none (fun j _ hj=>hg j (by omega)),if_neg (by omega),findFrom_none (fun j h1 hj=>hd j h1 (by omega)),if_neg (by omega)]
theorem ck_right {N:List ByteArray} {C:List (Int×Int)} (h:ckErr N C=0):C.length=N.length∧(∀ j,j<C.length→goodB C j=false)∧∀ j,1≤j→j<N.length→downS N j=false:=by
 by_cases h1:C.length=N.length
 ·refine ⟨h1,?_⟩
  by_cases h2:∀ j,j<C.length→goodB C j=false
  ·refine ⟨h2,fun j hj1 hj=>?_⟩
   cases hd:downS N j
   ·rfl
   ·rw [ck_down h1 h2 hj1 hj hd] at h;cases h
  ·exfalso
   apply h2
   intro j hj
   cases hd:goodB C j
   ·rfl
   ·rw [ck_cell h1 hj hd] at h;cases h
 ·rw [ck_shape h1] at h;cases h
theorem ck_ok {N:List ByteArray} {C:List (Int×Int)} (h:ckErr N C=0):∀ c∈C,okC c:=by
 intro c hc
 obtain ⟨j,hj,rfl⟩:=List.getElem_of_mem hc
 have:=(ck_right h).2.1 j hj
 unfold goodB at this
 rw [List.getD_eq_getElem?_getD,List.getElem?_eq_getElem hj] at this
 simpa [okC] using this
/-! names that rise -/
theorem down_not {N:List ByteArray} {i:Nat} (h:downS N i=false):(N.getD (i-1) noS).toList<(N.getD i noS).toList:=by
 unfold downS at h
 rw [Bool.or_eq_false_iff,bytesLess_eq] at h
 have h1:=of_decide_eq_false h.1
 have h2:(N.getD i noS).toList≠(N.getD (i-1) noS).toList:=by simpa using h.2
 rcases Std.lt_trichotomy (N.getD i noS).toList (N.getD (i-1) noS).toList with h3 | h3 | h3
 ·exact absurd h3 h1
 ·exact absurd h3 h2
 ·exact h3
theorem rise_all {N:List ByteArray} (h:∀ j,1≤j→j<N.length→downS N j=false):∀ i j,i<j→j<N.length→(N.getD i noS).toList<(N.getD j noS).toList:=by
 intro i j hij
 induction j with
 | zero=>omega
 | succ j ih =>
  intro hj
  have h1:=down_not (h (j+1) (by omega) hj)
  by_cases e:i=j
  ·subst e;exact h1
  ·exact List.lt_trans (ih (by omega) (by omega)) h1
end Go.Proofs.YtigkeokacagabafGreatDoor
namespace Go.Proofs.YtigkeokacagabafGreatDoor
open Go.ChangeShapes Go.WideShapes Go.ChangeAt Go.RowKit
set_option maxRecDepth 20000
theorem clashD_hit {D:Nat→Dm} {k j:Nat} (hj:j<k) (h:same (D j).name (D k).name=true):clashD D k=true:=by
 unfold clashD
 exact decide_eq_true (findFrom_nonneg (q:=fun j=>same (D j).name (D k).name) hj h)
theorem clashD_none {D:Nat→Dm} {k:Nat} (h:findFrom (fun j=>same (D j).name (D k).name) k 0 = -1):clashD D k=false:=by
 unfold clashD
 rw [h]
 rfl
set_option maxHeartbeats 8000000 in
theorem routline_any (A0:Option Addr) (cap n:Nat) (D:Nat→Dm) (A:Nat→Option Addr) (C:Nat→Nat) (w:World) (hM:DimsV w A0 cap n D A C):Calls Tryz.prog 79 #[.agg #[.slice A0 n cap]] w fun e w'=>e=.returned (.tuple #[.int .i64 (allErr D n).1,.int .i64 (allErr D n).2.1,.int .i64 (allErr D n).2.2])∧Below w.heap.size w w':=by
 by_cases hn4:4<n
 ·have hn':4<(n:Int):=by omega
  have HR:Hid (allErr D n=(-1,-1,4)):=al0 hn4
  clear hn4 hM
  go_enter Tryz.func79,Tryz.ntmps79
  go_wp2_with fail
  refine bodyPost_ret (v:=.tuple #[.int .i64 (-1),.int .i64 (-1),.int .i64 4]) (by simp [results,Tryz.results79,go_sem]) rfl ⟨by rw [HR.out],?_⟩
  go_grown
 have hn':(n:Int)≤4:=by omega
 by_cases hn0:n=0
 ·have HR:Hid (allErr D n=(-1,-1,5)):=al1 hn0
  have hz:((n:Int) == 0)=true:=by simp [hn0]
  clear hn0 hM hn4
  go_enter Tryz.func79,Tryz.ntmps79
  go_wp2_with fail
  refine bodyPost_ret (v:=.tuple #[.int .i64 (-1),.int .i64 (-1),.int .i64 5]) (by simp [results,Tryz.results79,go_sem]) rfl ⟨by rw [HR.out],?_⟩
  go_grown
 have hz:((n:Int) == 0)=false:=by simp;omega
 obtain ⟨hcap,h0 | ⟨b,o,rfl,hMs⟩⟩:=hM
 ·omega
 have hcap':(n:Int)≤(cap:Int):=by omega
 have hB0:=ownOut_below w (some ⟨b,o,none⟩) n cap 42
 have hS:=ownOut_size w (some ⟨b,o,none⟩) n cap 42
 have hA:=ownOut_at w (some ⟨b,o,none⟩) n cap 42
 obtain ⟨W,hW⟩:∃ W,W=ownOut w (some ⟨b,o,none⟩) n cap 42:=⟨_,rfl⟩
 rw [←hW] at hB0 hS hA
 have HMs:Hid (DimsAt W b o n D A C):=hMs.later hB0
 have hsz:w.heap.size<W.heap.size:=by omega
 clear hMs
 have HW:Hid (W=ownOut w (some ⟨b,o,none⟩) n cap 42):=hW
 have HA:Hid (W.cell? ⟨w.heap.size,0,none⟩=some (.slice (some ⟨b,o,none⟩) n cap)):=hA
 have HB0:Hid (Below w.heap.size w W):=hB0
 clear hW hA hB0 hS
 go_enter Tryz.func79,Tryz.ntmps79
 go_wp2_with fail
 go_loopg [5] n (fun g s5 wr => ∃ (k:Nat),k≤n∧g=n-k∧s5=.int .i64 k∧scanD D (n-k) k=scanD D n 0∧Below W.heap.size W wr)
 case atStart=>exact ⟨0,Nat.zero_le _,rfl,rfl,rfl,by rw [HW.out];exact Below.refl _ _⟩
 case round =>
  obtain ⟨k,hk,rfl,rfl,hsc,hBw⟩:=hrel
  obtain ⟨wo,rfl⟩:∃ wo:World,wo=wr:=⟨_,rfl⟩
  have HBr:Hid (Below W.heap.size W wo):=hBw
  have HF:Hid (scanD D (n-k) k=scanD D n 0):=hsc
  have c0:wo.cell? ⟨w.heap.size,0,none⟩=some (.slice (some ⟨b,o,none⟩) n cap):=(hBw.cell (p:=⟨w.heap.size,0,none⟩) hsz).trans HA.out
  have hMr:=HMs.out.later hBw
  have hszr:w.heap.size<wo.heap.size:=Nat.lt_of_lt_of_le hsz hBw.size
  clear hsc hBw
  by_cases hlt:k<n
  ·obtain ⟨h0,h1,h2,h3⟩:=hMr.2 k hlt
   have hki:(k:Int)<(n:Int):=by omega
   have hsk:n-k=(n-(k+1))+1:=by omega
   have hck:=rdim_any (D k) (A k) (C k) wo h3
   unfold dimV at hck
   have HMr:Hid (DimsAt wo b o n D A C):=hMr
   clear h3 hMr
   by_cases he:(dimErr (D k)).2=0
   ·obtain ⟨e1,hd1,hd2,-⟩:=dimErr_right he
    rw [he,e1] at hck
    have HE:Hid ((dimErr (D k)).2=0):=he
    clear he e1
    go_wp2_with fail
    refine hck.mono ?_
    rintro e w1 ⟨rfl,hb1⟩
    have hz1:w.heap.size<w1.heap.size:=Nat.lt_of_lt_of_le hszr hb1.size
    have c1:w1.cell? ⟨w.heap.size,0,none⟩=some (.slice (some ⟨b,o,none⟩) n cap):=(hb1.cell (p:=⟨w.heap.size,0,none⟩) hszr).trans c0
    have HM1:Hid (DimsAt w1 b o n D A C):=HMr.out.later hb1
    have HB1:Hid (Below W.heap.size W w1):=onB HBr.out hb1
    clear hb1 hck c0 h0 h1 h2 HMr hd1 hd2
    go_wp2_with fail
    go_loopg [7,8] k (fun g s7 s8 wr => ∃ (j:Nat),j≤k∧g=k-j∧s8=.int .i64 j∧((s7=.int .i64 0∧findFrom (fun j=>same (D j).name (D k).name) (k-j) j=findFrom (fun j=>same (D j).name (D k).name) k 0)∨(s7=.int .i64 7∧clashD D k=true))∧Below w1.heap.size w1 wr)
    case atStart=>exact ⟨0,Nat.zero_le _,rfl,rfl,Or.inl ⟨rfl,rfl⟩,Below.refl _ _⟩
    case round =>
     obtain ⟨j,hj,rfl,rfl,hs,hBi⟩:=hrel
     have HBi:Hid (Below w1.heap.size w1 wr):=hBi
     have c2:wr.cell? ⟨w.heap.size,0,none⟩=some (.slice (some ⟨b,o,none⟩) n cap):=(hBi.cell (p:=⟨w.heap.size,0,none⟩) hz1).trans c1
     have hMi:=HM1.out.later hBi
     clear hBi
     rcases hs with ⟨rfl,hff⟩ | ⟨rfl,hcl⟩
     ·have HFF:Hid (findFrom (fun j=>same (D j).name (D k).name) (k-j) j=findFrom (fun j=>same (D j).name (D k).name) k 0):=hff
      clear hff
      by_cases hjk:j<k
      ·obtain ⟨a0,-,-,-⟩:=hMi.2 j (by omega)
       obtain ⟨b0,-,-,-⟩:=hMi.2 k hlt
       have hji:(j:Int)<(k:Int):=by omega
       have hjn:(j:Int)<(n:Int):=by omega
       have hsj:k-j=(k-(j+1))+1:=by omega
       clear hMi
       cases hq:((D j).name.toList == (D k).name.toList)
       ·have HQ:Hid ((fun j=>same (D j).name (D k).name) j=false):=hq
        go_wp2_with fail
        go_quiet (fail)
        go_wp2_with fail
        go_roundg (k-(j+1))
        case measure=>omega
        case rel=>exact ⟨j+1,by omega,rfl,by go_num,Or.inl ⟨rfl,by rw [←HFF.out,hsj,findFrom_miss _ HQ.out]⟩,onB HBi.out (below_drewN (Below.refl _ _) _)⟩
       ·have HQ:Hid (clashD D k=true):=clashD_hit hjk hq
        go_wp2_with fail
        go_quiet (fail)
        go_wp2_with fail
        go_roundg (k-(j+1))
        case measure=>omega
        case rel=>exact ⟨j+1,by omega,rfl,by go_num,Or.inr ⟨rfl,HQ.out⟩,onB HBi.out (below_drewN (Below.refl _ _) _)⟩
      ·have hje:j=k:=by omega
       have hji:(k:Int)≤(j:Int):=by omega
       have hcl:clashD D k=false:=clashD_none (by rw [←HFF.out,hje,Nat.sub_self];rfl)
       have HK:Hid (oneD D k=(-1,0)):=one2 HE.out hcl
       clear hMi hcl
       go_wp2_with fail
       go_roundg (n-(k+1))
       case measure=>omega
       case rel=>exact ⟨k+1,by omega,rfl,by go_num,by rw [←HF.out,hsk,scanD_ok _ (by rw [HK.out])],onB HB1.out HBi.out⟩
     ·have HK:Hid (oneD D k=(-1,7)):=one1 HE.out hcl
      clear hMi hcl
      have hsb:scanD D n 0=((k:Int),-1,7):=by rw [←HF.out,hsk,scanD_bad _ (by rw [HK.out];decide),HK.out]
      have HR:Hid (allErr D n=((k:Int),-1,7)):=by show _=_;rw [al2 (by omega) (by omega) (by rw [hsb];show (7:Int)≠0;decide),hsb]
      clear hsb
      by_cases hjk:(j:Int)<(k:Int)
      ·go_wp2_with fail
       refine bodyPost_ret (v:=.tuple #[.int .i64 k,.int .i64 (-1),.int .i64 7]) (by simp [results,Tryz.results79,go_sem]) rfl ⟨by rw [HR.out],?_⟩
       exact onB HB0.out (onB HB1.out HBi.out)
      ·go_wp2_with fail
       refine bodyPost_ret (v:=.tuple #[.int .i64 k,.int .i64 (-1),.int .i64 7]) (by simp [results,Tryz.results79,go_sem]) rfl ⟨by rw [HR.out],?_⟩
       exact onB HB0.out (onB HB1.out HBi.out)
   ·have HK:Hid (oneD D k=dimErr (D k)):=one0 he
    have HE:Hid ((dimErr (D k)).2≠0):=he
    have hsb:scanD D n 0=((k:Int),(dimErr (D k)).1,(dimErr (D k)).2):=by rw [←HF.out,hsk,scanD_bad _ (by rw [HK.out];exact he),HK.out]
    have HR:Hid (allErr D n=((k:Int),(dimErr (D k)).1,(dimErr (D k)).2)):=by show _=_;rw [al2 (by omega) (by omega) (by rw [hsb];exact he),hsb]
    have he2:((dimErr (D k)).2 == 0)=false:=by simpa using he
    clear he hsb HK HE
    generalize (dimErr (D k)).2=ec at hck HR he2
    generalize (dimErr (D k)).1=kc at hck HR
    go_wp2_with fail
    refine hck.mono ?_
    rintro e w1 ⟨rfl,hb1⟩
    have HB1:Hid (Below W.heap.size W w1):=onB HBr.out hb1
    clear hb1 hck
    go_wp2_with fail
    by_cases hk0:(0:Int)<(k:Int)
    ·refine wp_loop_rounds 1 ?_
     rw [rounds_succ]
     go_wp2_with fail
     refine bodyPost_ret (v:=.tuple #[.int .i64 k,.int .i64 kc,.int .i64 ec]) (by simp [results,Tryz.results79,go_sem]) rfl ⟨by rw [HR.out],?_⟩
     exact onB HB0.out HB1.out
    ·have hk0':(k:Int)≤0:=by omega
     refine wp_loop_rounds 1 ?_
     rw [rounds_succ]
     go_wp2_with fail
     refine bodyPost_ret (v:=.tuple #[.int .i64 k,.int .i64 kc,.int .i64 ec]) (by simp [results,Tryz.results79,go_sem]) rfl ⟨by rw [HR.out],?_⟩
     exact onB HB0.out HB1.out
  ·have hke:k=n:=by omega
   subst hke
   have hs0:(scanD D k 0).2.2=0:=by rw [←HF.out,Nat.sub_self];rfl
   have hone:=(scanD_right k 0 hs0).2
   have hcs:=osize_any b o k cap D A C wo (by omega) (fun j hj=>(dimErr_right (oneD_right (hone j (Nat.zero_le _) (by omega)))).2.2.1) hMr
   clear hone hMr
   by_cases hp:3000<prodN D k
   ·have hp':3000<(prodN D k:Int):=by omega
    have HR:Hid (allErr D k=(-1,-1,4)):=al3 (by omega) (by omega) hs0 hp
    clear hs0 hp
    go_wp2_with fail
    refine hcs.mono ?_
    rintro e w2 ⟨rfl,hb2⟩
    go_wp2_with fail
    refine bodyPost_ret (v:=.tuple #[.int .i64 (-1),.int .i64 (-1),.int .i64 4]) (by simp [results,Tryz.results79,go_sem]) rfl ⟨by rw [HR.out],?_⟩
    exact onB HB0.out (onB HBr.out hb2)
   ·have hp':(prodN D k:Int)≤3000:=by omega
    have HR:Hid (allErr D k=(-1,-1,0)):=al4 (by omega) (by omega) hs0 hp
    clear hs0 hp
    go_wp2_with fail
    refine hcs.mono ?_
    rintro e w2 ⟨rfl,hb2⟩
    go_wp2_with fail
    refine bodyPost_ret (v:=.tuple #[.int .i64 (-1),.int .i64 (-1),.int .i64 0]) (by simp [results,Tryz.results79,go_sem]) rfl ⟨by rw [HR.out],?_⟩
    exact onB HB0.out (onB HBr.out hb2)
end Go.Proofs.YtigkeokacagabafGreatDoor
namespace Go.Proofs.YtigkeokacagabafGreatDoor
open Go.ChangeShapes Go.WideShapes Go.ChangeAt Go.RowKit
def RefTo (f:Nat) (args:Array Value) (r:Int×Int):Prop := ∀ (w:World),Calls Tryz.prog f args w fun e w'=>e=.returned (.agg #[.int .i64 r.1,.int .i64 r.2])∧Below w.heap.size w w'
theorem bool2 {k:Int} (h : ¬ k=2):(k == 2)=false:=by simpa using h
theorem bool0 {k:Int} (h : ¬ k=0):(k == 0)=false:=by simpa using h
theorem rplus_made (ka na kb nb sg r:Int) (w:World) (q1:(ka == 2)=false) (q2:(kb == 2)=false) (q3:((ka == 0) && (kb == 0))=false) (hm:wrap64 (na+wrap64 (sg*nb))=r) :
  Calls Tryz.prog 73 #[.agg #[.int .i64 ka,.int .i64 na],.agg #[.int .i64 kb,.int .i64 nb],.int .i64 sg] w fun e w'=>e=.returned (.agg #[.int .i64 (ofP r).1,.int .i64 (ofP r).2])∧Below w.heap.size w w':=by
 subst hm
 have HR:=rof_any (wrap64 (na+wrap64 (sg*nb)))
 cases q4:(ka == 0)
 all_goals
  rw [q4] at q3
  try simp only [Bool.true_and,Bool.false_and] at q3
  go_enter Tryz.func73,Tryz.ntmps73
  go_wp2_with fail
  refine (HR _).mono ?_
  rintro e w1 ⟨rfl,hb⟩
  have hB:Below w.heap.size w w1:=Below.trans (by go_grown) (hb.mono (by simp;omega))
  obtain ⟨hc,hf⟩:=bcell hb
  have hz:=bsize hb
  simp at hz
  go_wp2_with fail
  refine bodyPost_ret (v:=.agg #[.int .i64 (ofP (wrap64 (na+wrap64 (sg*nb)))).1,.int .i64 (ofP (wrap64 (na+wrap64 (sg*nb)))).2]) (by simp [results,Tryz.results73,go_sem,hc]) rfl ⟨rfl,?_⟩
  go_grown
theorem rplus_fault (ka na kb nb sg:Int) (w:World) (h:ka=2∨kb=2):Calls Tryz.prog 73 #[.agg #[.int .i64 ka,.int .i64 na],.agg #[.int .i64 kb,.int .i64 nb],.int .i64 sg] w fun e w'=>e=.returned (.agg #[.int .i64 2,.int .i64 0])∧Below w.heap.size w w':=by
 by_cases h1:ka=2
 ·subst h1
  clear h
  go_enter Tryz.func73,Tryz.ntmps73
  go_wp2
  go_returns
  exact ⟨rfl,by go_grown⟩
 ·have q1:=bool2 h1
  have h2:kb=2:=by omega
  subst h2
  clear h h1
  go_enter Tryz.func73,Tryz.ntmps73
  go_wp2
  go_returns
  exact ⟨rfl,by go_grown⟩
theorem rplus_blank (na nb sg:Int) (w:World):Calls Tryz.prog 73 #[.agg #[.int .i64 0,.int .i64 na],.agg #[.int .i64 0,.int .i64 nb],.int .i64 sg] w fun e w'=>e=.returned (.agg #[.int .i64 0,.int .i64 0])∧Below w.heap.size w w':=by
 go_enter Tryz.func73,Tryz.ntmps73
 go_wp2
 go_returns
 exact ⟨rfl,by go_grown⟩
theorem rplus_any (ka na kb nb sg r:Int) (hr:wrap64 (na+wrap64 (sg*nb))=r):RefTo 73 #[.agg #[.int .i64 ka,.int .i64 na],.agg #[.int .i64 kb,.int .i64 nb],.int .i64 sg] (joinP (!(ka != 0 || kb != 0)) ka kb (ofP r)):=by
 intro w
 unfold joinP
 by_cases h2:ka=2∨kb=2
 ·rw [if_pos h2]
  exact rplus_fault ka na kb nb sg w h2
 ·rw [if_neg h2]
  by_cases h0:ka=0∧kb=0
  ·obtain ⟨rfl,rfl⟩:=h0
   exact rplus_blank na nb sg w
  ·rw [if_neg (by simp;omega)]
   exact rplus_made ka na kb nb sg r w (bool2 (by omega)) (bool2 (by omega)) (by simp;omega) hr
theorem rplus_plus (ka na kb nb:Int) (ha:good ka na=true) (hb:good kb nb=true):RefTo 73 #[.agg #[.int .i64 ka,.int .i64 na],.agg #[.int .i64 kb,.int .i64 nb],.int .i64 1] (plusP ka na kb nb):=by
 obtain ⟨a1,a2⟩:=good_bd ha
 obtain ⟨b1,b2⟩:=good_bd hb
 exact rplus_any ka na kb nb 1 (na+nb) (by unfold wrap64;omega)
theorem rplus_minus (ka na kb nb:Int) (ha:good ka na=true) (hb:good kb nb=true):RefTo 73 #[.agg #[.int .i64 ka,.int .i64 na],.agg #[.int .i64 kb,.int .i64 nb],.int .i64 (-1)] (minusP ka na kb nb):=by
 obtain ⟨a1,a2⟩:=good_bd ha
 obtain ⟨b1,b2⟩:=good_bd hb
 exact rplus_any ka na kb nb (-1) (na-nb) (by unfold wrap64;omega)
theorem rtimes_fault (ka na kb nb:Int) (w:World) (h:ka=2∨kb=2):Calls Tryz.prog 114 #[.agg #[.int .i64 ka,.int .i64 na],.agg #[.int .i64 kb,.int .i64 nb]] w fun e w'=>e=.returned (.agg #[.int .i64 2,.int .i64 0])∧Below w.heap.size w w':=by
 by_cases h1:ka=2
 ·subst h1
  clear h
  go_enter Tryz.func114,Tryz.ntmps114
  go_wp2
  go_returns
  exact ⟨rfl,by go_grown⟩
 ·have q1:=bool2 h1
  have h2:kb=2:=by omega
  subst h2
  clear h h1
  go_enter Tryz.func114,Tryz.ntmps114
  go_wp2
  go_returns
  exact ⟨rfl,by go_grown⟩
theorem rover_fault (ka na kb nb:Int) (w:World) (h:ka=2∨kb=2):Calls Tryz.prog 115 #[.agg #[.int .i64 ka,.int .i64 na],.agg #[.int .i64 kb,.int .i64 nb]] w fun e w'=>e=.returned (.agg #[.int .i64 2,.int .i64 0])∧Below w.heap.size w w':=by
 by_cases h1:ka=2
 ·subst h1
  clear h
  go_enter Tryz.func115,Tryz.ntmps115
  go_wp2
  go_returns
  exact ⟨rfl,by go_grown⟩
 ·have q1:=bool2 h1
  have h2:kb=2:=by omega
  subst h2
  clear h h1
  go_enter Tryz.func115,Tryz.ntmps115
  go_wp2
  go_returns
  exact ⟨rfl,by go_grown⟩
theorem rtimes_blank (ka na kb nb:Int) (w:World) (q1:(ka == 2)=false) (q2:(kb == 2)=false) (h:ka=0∨kb=0):Calls Tryz.prog 114 #[.agg #[.int .i64 ka,.int .i64 na],.agg #[.int .i64 kb,.int .i64 nb]] w fun e w'=>e=.returned (.agg #[.int .i64 0,.int .i64 0])∧Below w.heap.size w w':=by
 by_cases h1:ka=0
 ·subst h1
  clear h q1
  go_enter Tryz.func114,Tryz.ntmps114
  go_wp2
  go_returns
  exact ⟨rfl,by go_grown⟩
 ·have q3:=bool0 h1
  have h2:kb=0:=by omega
  subst h2
  clear h h1 q2
  go_enter Tryz.func114,Tryz.ntmps114
  go_wp2
  go_returns
  exact ⟨rfl,by go_grown⟩
theorem rover_blank (ka na kb nb:Int) (w:World) (q1:(ka == 2)=false) (q2:(kb == 2)=false) (h:ka=0∨kb=0):Calls Tryz.prog 115 #[.agg #[.int .i64 ka,.int .i64 na],.agg #[.int .i64 kb,.int .i64 nb]] w fun e w'=>e=.returned (.agg #[.int .i64 0,.int .i64 0])∧Below w.heap.size w w':=by
 by_cases h1:ka=0
 ·subst h1
  clear h q1
  go_enter Tryz.func115,Tryz.ntmps115
  go_wp2
  go_returns
  exact ⟨rfl,by go_grown⟩
 ·have q3:=bool0 h1
  have h2:kb=0:=by omega
  subst h2
  clear h h1 q2
  go_enter Tryz.func115,Tryz.ntmps115
  go_wp2
  go_returns
  exact ⟨rfl,by go_grown⟩
set_option maxHeartbeats 1000000 in
theorem rtimes_made (ka na kb nb:Int) (w:World) (q1:(ka == 2)=false) (q2:(kb == 2)=false) (q3:(ka == 0)=false) (q4:(kb == 0)=false) (a1 : -1000000000000≤na) (a2:na≤1000000000000) (b1 : -1000000000000≤nb) (b2:nb≤1000000000000) :
  Calls Tryz.prog 114 #[.agg #[.int .i64 ka,.int .i64 na],.agg #[.int .i64 kb,.int .i64 nb]] w fun e w'=>e=.returned (.agg #[.int .i64 (ofP (na*nb)).1,.int .i64 (ofP (na*nb)).2])∧Below w.heap.size w w':=by
 obtain ⟨ax0,ax1⟩:=ab_in a1 a2
 obtain ⟨ay0,ay1⟩:=ab_in b1 b2
 have hsx:=rsize_any na
 have hsy:=rsize_any nb
 by_cases hz0:na=0
 ·subst hz0
  have hx0:ab 0=0:=rfl
  rw [hx0] at hsx
  have ho:=rof_any (0*nb)
  rw [Int.zero_mul] at ho ⊢
  clear hx0 ax0 ax1
  go_enter Tryz.func114,Tryz.ntmps114
  go_wp2_with fail
  refine (hsx _ a1 a2).mono ?_
  rintro e w1 ⟨rfl,rfl⟩
  go_wp2_with fail
  refine (hsy _ b1 b2).mono ?_
  rintro e w1 ⟨rfl,rfl⟩
  go_wp2_with fail
  refine (ho _).mono ?_
  rintro e w1 ⟨rfl,hb⟩
  have hB:Below w.heap.size w w1:=Below.trans (by go_grown) (hb.mono (by simp;omega))
  obtain ⟨hc,hf⟩:=bcell hb
  have hz:=bsize hb
  simp at hz
  go_wp2_with fail
  refine bodyPost_ret (v:=.agg #[.int .i64 (ofP 0).1,.int .i64 (ofP 0).2]) (by simp [results,Tryz.results114,go_sem,hc]) rfl ⟨rfl,?_⟩
  go_grown
 ·have ap:=ab_pos hz0
  by_cases hg:1000000000000 / ab na<ab nb
  ·have hout:ofP (na*nb)=(2,0):=by
    refine ofP_out (ab_out (m:=1000000000000) ?_)
    rw [ab_mul,Int.mul_comm]
    exact (Int.ediv_lt_iff_lt_mul (by omega)).mp hg
   rw [hout]
   go_enter Tryz.func114,Tryz.ntmps114
   go_wp2_with fail
   refine (hsx _ a1 a2).mono ?_
   rintro e w1 ⟨rfl,rfl⟩
   go_wp2_with fail
   refine (hsy _ b1 b2).mono ?_
   rintro e w1 ⟨rfl,rfl⟩
   go_wp2
   go_returns
   exact ⟨rfl,by go_grown⟩
  ·have hin:ab (na*nb)≤1000000000000:=by
    rw [ab_mul,Int.mul_comm]
    exact Int.not_lt.mp (fun h=>hg ((Int.ediv_lt_iff_lt_mul (by omega)).mpr h))
   obtain ⟨hp1,hp2⟩:=ab_bd hin
   have ho:=rof_any (na*nb)
   clear hin
   go_enter Tryz.func114,Tryz.ntmps114
   go_wp2_with fail
   refine (hsx _ a1 a2).mono ?_
   rintro e w1 ⟨rfl,rfl⟩
   go_wp2_with fail
   refine (hsy _ b1 b2).mono ?_
   rintro e w1 ⟨rfl,rfl⟩
   go_wp2_with fail
   refine (ho _).mono ?_
   rintro e w1 ⟨rfl,hb⟩
   have hB:Below w.heap.size w w1:=Below.trans (by go_grown) (hb.mono (by simp;omega))
   obtain ⟨hc,hf⟩:=bcell hb
   have hz:=bsize hb
   simp at hz
   go_wp2_with fail
   refine bodyPost_ret (v:=.agg #[.int .i64 (ofP (na*nb)).1,.int .i64 (ofP (na*nb)).2]) (by simp [results,Tryz.results114,go_sem,hc]) rfl ⟨rfl,?_⟩
   go_grown
theorem rtimes_any (ka na kb nb:Int) (ha:good ka na=true) (hb:good kb nb=true):RefTo 114 #[.agg #[.int .i64 ka,.int .i64 na],.agg #[.int .i64 kb,.int .i64 nb]] (timesP ka na kb nb):=by
 obtain ⟨a1,a2⟩:=good_bd ha
 obtain ⟨b1,b2⟩:=good_bd hb
 intro w
 unfold timesP joinP
 by_cases h2:ka=2∨kb=2
 ·rw [if_pos h2]
  exact rtimes_fault ka na kb nb w h2
 ·rw [if_neg h2]
  by_cases h0:ka=0∨kb=0
  ·rw [if_pos (by simp;omega)]
   exact rtimes_blank ka na kb nb w (bool2 (by omega)) (bool2 (by omega)) h0
  ·rw [if_neg (by simp;omega)]
   exact rtimes_made ka na kb nb w (bool2 (by omega)) (bool2 (by omega)) (bool0 (by omega)) (bool0 (by omega)) a1 a2 b1 b2
end Go.Proofs.YtigkeokacagabafGreatDoor
namespace Go.Proofs.YtigkeokacagabafGreatDoor
open Go.ChangeShapes Go.WideShapes Go.ChangeAt Go.RowKit
set_option maxRecDepth 20000
set_option maxHeartbeats 4000000 in
theorem pof_blk (A0:Option Addr) (cap n:Nat) (D:Nat→Dm) (A:Nat→Option Addr) (C:Nat→Nat) (X:Nat) (w:World) (he:(allErr D n).2.2=0) (hXp:X<prodN D n) (hM:DimsV w A0 cap n D A C):Calls Tryz.prog 51 #[.agg #[.slice A0 n cap],.int .i64 X] w fun e w'=>(∃ g,e=.returned (.tuple #[.slice (some ⟨g,0,none⟩) n n,.nilIface])∧w.heap.size≤g∧IntB w' g (placeL D n X))∧Below w.heap.size w w':=by
 have hB0:=ownOut_below w A0 n cap 42
 have h:=pcells_any A0 cap n D A C (ownOut w A0 n cap 42) (hM.later hB0)
 have HB0:Hid (Below w.heap.size w (ownOut w A0 n cap 42)):=hB0
 have HM:Hid (DimsV w A0 cap n D A C):=hM
 clear hM hB0
 obtain ⟨hn1,hn4,hp3,hd⟩:=allErr_some he
 have hcv:cellsV D n=(prodN D n:Int):=by unfold cellsV;rw [if_pos he]
 rw [he,errV_zero,hcv] at h
 clear he hcv
 have hX:X≤3000:=by omega
 have HD:Hid (∀ i,i<n→1≤(D i).n∧(D i).n≤12):=hd
 have hn':(n:Int)≤4:=by omega
 have hn1':(1:Int)≤(n:Int):=by omega
 have hxp:(X:Int)<(prodN D n:Int):=by omega
 have hmk:=run_make_row' (P:=Tryz.prog) 44 3 (.int .i64 0) 8 Tryz.underlying44 Tryz.infoIntP rfl .i64 .i64 n (by omega) (by omega)
 have hbx:decide ((X:Int)<0)=false:=decide_eq_false (by omega)
 have hbp:decide ((prodN D n:Int)≤(X:Int))=false:=decide_eq_false (by omega)
 have hbp':decide (prodN D n≤X)=false:=decide_eq_false (by omega)
 generalize hpn:prodN D n=pn at h hXp hp3 hxp hbp hbp'
 clear hd hpn hXp
 go_enter Tryz.func51,Tryz.ntmps51
 go_wp2_with fail
 refine h.mono ?_
 rintro e w1 ⟨rfl,hb1⟩
 have hB:Below w.heap.size w w1:=onB HB0.out hb1
 have hz:w.heap.size<w1.heap.size:=by have:=hb1.size;rw [ownOut_size] at this;omega
 have h2:w1.cell? ⟨w.heap.size,0,none⟩=some (.slice A0 n cap):=(hb1.cell (p:=⟨w.heap.size,0,none⟩) (by show w.heap.size<_;rw [ownOut_size];omega)).trans (ownOut_at ..)
 obtain ⟨hcap,h0 | ⟨b,o,rfl,hMs⟩⟩:=HM.out.later hB
 ·omega
 have HMs:Hid (DimsAt w1 b o n D A C):=hMs
 have HB:Hid (Below w.heap.size w w1):=hB
 have HSz:Hid (w.heap.size≤w1.heap.size):=Nat.le_of_lt hz
 clear hb1 h hMs hB
 go_wp2_with fail
 clear hmk
 go_loopg [1,9,10] n (fun g s1 s9 s10 wr => ∃ (r:Nat),r≤n∧g=n-r∧s9=.int .i64 ((n:Int)-1-r)∧s1=.int .i64 (restAt D n X r)∧IntB wr w1.heap.size (digL D n X r)∧Below w1.heap.size w1 wr)
 case atStart=>exact ⟨0,Nat.zero_le _,rfl,by simp,rfl,by rw [digL_zero];exact IntB.made w1 n,by go_grown⟩
 case round =>
  obtain ⟨r,hr,rfl,rfl,rfl,hI,hBw⟩:=hrel
  have HI:Hid (IntB wr w1.heap.size (digL D n X r)):=hI
  have HBw:Hid (Below w1.heap.size w1 wr):=hBw
  by_cases hlt:r<n
  ·obtain ⟨k,hk⟩:∃ k:Nat,k=n-1-r:=⟨_,rfl⟩
   have hki:(n:Int)-1-(r:Int)=(k:Int):=by omega
   rw [hki]
   have HK:Hid (k=n-1-r):=hk
   have hkn:k<n:=by omega
   obtain ⟨-,-,h3,-⟩:=(HMs.out.later hBw).2 k hkn
   have c2:wr.cell? ⟨w.heap.size,0,none⟩=some (.slice (some ⟨b,o,none⟩) n cap):=(hBw.cell (p:=⟨w.heap.size,0,none⟩) hz).trans h2
   have hkn':(k:Int)<(n:Int):=by omega
   have c4:=hI.cell (j:=k) (by rw [digL_len];exact hkn)
   have c5:=hI.frozen k
   obtain ⟨hd1,hd2⟩:=HD.out k hkn
   have hre:=restAt_le D n X r
   have HR1:Hid (restAt D n X (r+1)=restAt D n X r / (D k).n):=by show _=_;rw [restAt,hk]
   have HR2:Hid (digitAt D n X k=restAt D n X r % (D k).n):=by show _=_;rw [digitAt,show n-1-k=r by omega]
   have HS:Hid ((digL D n X r).set k (digitAt D n X k:Int)=digL D n X (r+1)):=by show _=_;rw [hk];exact digL_set D n X r hlt
   generalize (digL D n X r).getD k 0=old at c4
   generalize restAt D n X r=R at HR1 HR2 hre
   generalize hm:(D k).n=m at h3 hd1 hd2 HR1 HR2
   have hm1:(1:Int)≤(m:Int):=by omega
   have hm2:(m:Int)≤12:=by omega
   have hR:(R:Int)≤3000:=by omega
   have hR0:(0:Int)≤(R:Int):=by omega
   have hm0:((m:Int) == 0)=false:=by simp;omega
   clear hI hBw hk hki hm
   go_wp2_with fail
   go_roundg (n-(r+1))
   case measure=>omega
   case rel =>
    have hdm:=Nat.div_le_self R m
    have hw:wrap64 ((R:Int) / (m:Int))=((R / m:Nat):Int):=by
     rw [←Int.natCast_ediv]
     exact wrap_small (Nat.le_trans hdm (by omega))
    refine ⟨r+1,by omega,rfl,?_,?_,?_,HBw.out.setCell (by show w1.heap.size≤w1.heap.size;omega) _⟩
    ·have:=HK.out
     congr 1
     omega
    ·rw [hw,HR1.out]
    ·have hs:=HI.out.set k (digitAt D n X k:Int)
     rw [HS.out,HR2.out,Int.natCast_emod] at hs
     exact hs
  ·have hre:r=n:=by omega
   subst hre
   have hk0:(r:Int)-1-(r:Int) = -1:=by omega
   rw [hk0]
   clear hI hBw
   go_wp2_with fail
   go_ret2
   have hp:=HI.out
   rw [digL_all] at hp
   exact ⟨⟨_,rfl,HSz.out,hp⟩,onB HB.out HBw.out⟩
end Go.Proofs.YtigkeokacagabafGreatDoor
