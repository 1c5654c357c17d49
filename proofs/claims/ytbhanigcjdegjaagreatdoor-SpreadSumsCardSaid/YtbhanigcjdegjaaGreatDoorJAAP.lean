/-
  An entry found among those that rise: what slices.BinarySearchFunc and find answer, called in whatever memory.
-/
import Derived.Test.YtbhanigcjdegjaaGreatDoorJAAN
import Derived.Test.YtbhanigcjdegjaaGreatDoorJAAO
namespace Go.Proofs.YtbhanigcjdegjaaGreatDoor
open Go.ChangeShapes Go.WideShapes Go.ChangeAt Go.RowKit
set_option maxRecDepth 20000
theorem order_in:EntersO 41:=fun args w=>by simp [callFunc,Tryz.func41];rfl
def Short (xs:List EnL) (p:List Int):Prop:=(∀ k,k<xs.length→(xs.getD k noL).e.pl.length≤4)∧p.length≤4
set_option maxHeartbeats 4000000 in
theorem bsf_any (b o cap:Nat) (xs:List EnL) (Ap:Option Addr) (cp:Nat) (p:List Int) (w:World) (hn:xs.length≤3000) (hE:EnsAt w b o xs) (hr:(lE xs).Pairwise fun a b=>lessL a.pl b.pl=true) (hS:Short xs p) (hP:PlAt w Ap cp p) :
  Calls Tryz.prog 84 #[.slice (some ⟨b,o,none⟩) xs.length cap,.slice Ap p.length cp,.func (.func 41) #[] #[]] w fun e w'=>e=.returned (.tuple #[.int .i64 (cntE (lE xs) p:Nat),.bool (hasE (lE xs) p)])∧Below w.heap.size w w':=by
 have he:=order_in
 unfold EntersO at he
 have HO:Hid (∀ k wr,k<xs.length→Below w.heap.size w wr→Calls Tryz.prog 41 #[.agg #[.slice (xs.getD k noL).A (xs.getD k noL).e.pl.length (xs.getD k noL).c,.int .i64 (xs.getD k noL).e.n],.slice Ap p.length cp] wr fun e w'=>e=.returned (.int .i64 (cmpL (xs.getD k noL).e.pl p))∧Below wr.heap.size wr w'):=fun k wr hk hB=>order_any _ _ _ _ _ _ _ wr (hS.1 k hk) hS.2 ((hE.pl hk).later hB) (hP.later hB)
 have HE:Hid (EnsAt w b o xs):=hE
 have HM:Hid (∀ j k,j≤k→k<xs.length→cmpL (xs.getD k noL).e.pl p<0→cmpL (xs.getD j noL).e.pl p<0):=fun j k hjk hk h=>by
  have h1:lessL ((lE xs).getD k noEn).pl p=true:=by rw [lE_at,←cmpL_neg];exact decide_eq_true h
  have h2:=less_mono hr hjk (by rw [lE_len];exact hk) h1
  rw [lE_at,←cmpL_neg] at h2
  exact of_decide_eq_true h2
 have HC:Hid (∀ i,i≤xs.length→(∀ t,t<i→cmpL (xs.getD t noL).e.pl p<0)→(i<xs.length→¬ cmpL (xs.getD i noL).e.pl p<0)→cntE (lE xs) p=i):=fun i hi h1 h2=>cnt_at _ _ i (by rw [lE_len];exact hi) (fun t ht=>by rw [lE_at,←cmpL_neg];exact decide_eq_true (h1 t ht)) (fun h3=>by rw [lE_len] at h3;rw [lE_at,←cmpL_neg];exact decide_eq_false (h2 h3))
 have HH:Hid (∀ i,cntE (lE xs) p=i→i<xs.length→hasE (lE xs) p=decide (cmpL (xs.getD i noL).e.pl p=0)):=fun i h1 h2=>by rw [←lE_at];exact (has_cmp h1 (by rw [lE_len];exact h2)).symm
 have HH2:Hid (∀ i,cntE (lE xs) p=i→xs.length≤i→hasE (lE xs) p=false):=fun i h1 h2=>(has_out h1 (by rw [lE_len];exact h2)).1
 obtain ⟨n,hnn⟩:∃ n,xs.length=n:=⟨_,rfl⟩
 obtain ⟨np,hnp⟩:∃ np,p.length=np:=⟨_,rfl⟩
 have HN:Hid (xs.length=n):=hnn
 rw [hnn] at hn HO HM HC HH HH2 ⊢
 rw [hnp] at HO ⊢
 generalize cntE (lE xs) p=cnt at HC HH HH2
 generalize hasE (lE xs) p=has at HH HH2
 have hn':(n:Int)≤3000:=by omega
 clear hE hr hS hP hnn hnp
 go_enter Tryz.func84,Tryz.ntmps84
 go_wp2_with fail
 go_loopg [9,10] n (fun g s9 s10 wr => ∃ (lo hi:Nat),lo≤hi∧hi≤n∧g=hi-lo∧s9=.int .i64 lo∧s10=.int .i64 hi∧Hid (∀ t,t<lo→cmpL (xs.getD t noL).e.pl p<0)∧Hid (∀ t,hi≤t→t<n→¬ cmpL (xs.getD t noL).e.pl p<0)∧Below w.heap.size w wr)
 case atStart=>exact ⟨0,n,Nat.zero_le _,Nat.le_refl _,rfl,rfl,rfl,fun t ht=>absurd ht (Nat.not_lt_zero _),fun t h1 h2=>absurd h2 (Nat.not_lt.2 h1),Below.refl _ _⟩
 case round =>
  obtain ⟨lo,hi,hlh,hhn,rfl,rfl,rfl,HL,HU,hBw⟩:=hrel
  have HBw:Hid (Below w.heap.size w wr):=hBw
  have hhn':(hi:Int)≤(n:Int):=by omega
  by_cases hlt:lo<hi
  ·obtain ⟨c1,c2⟩:=(HE.out.later hBw).at (k:=(lo+hi) / 2) (by rw [HN.out];omega)
   have hc:=HO.out ((lo+hi) / 2) wr (by omega) hBw
   have hlt':(lo:Int)<(hi:Int):=by omega
   obtain ⟨c,hcc⟩:∃ c,cmpL (xs.getD ((lo+hi) / 2) noL).e.pl p=c:=⟨_,rfl⟩
   have HCC:Hid (cmpL (xs.getD ((lo+hi) / 2) noL).e.pl p=c):=hcc
   rw [hcc] at hc
   generalize (xs.getD ((lo+hi) / 2) noL).A=A1 at c1 hc
   generalize (xs.getD ((lo+hi) / 2) noL).c=k1 at c1 hc
   generalize (xs.getD ((lo+hi) / 2) noL).e.pl.length=m1 at c1 hc
   generalize (xs.getD ((lo+hi) / 2) noL).e.n=n1 at c2 hc
   clear hcc hBw
   by_cases hneg:c<0
   ·go_wp2_with fail
    refine hc.mono ?_
    rintro e w1 ⟨rfl,hb1⟩
    go_wp2_with fail
    go_roundg (hi-((lo+hi) / 2+1))
    case measure=>omega
    case rel=>exact ⟨(lo+hi) / 2+1,hi,by omega,hhn,rfl,by congr 1,rfl,fun t ht=>HM.out t ((lo+hi) / 2) (by omega) (by omega) (by rw [HCC.out];exact hneg),HU,onB HBw.out hb1⟩
   ·go_wp2_with fail
    refine hc.mono ?_
    rintro e w1 ⟨rfl,hb1⟩
    go_wp2_with fail
    go_roundg ((lo+hi) / 2-lo)
    case measure=>omega
    case rel=>exact ⟨lo,(lo+hi) / 2,by omega,by omega,rfl,rfl,by congr 1,HL,fun t h1 h2=>Int.not_lt.1 fun h3=>by have h4:=HM.out ((lo+hi) / 2) t h1 h2 h3;rw [HCC.out] at h4;omega,onB HBw.out hb1⟩
  ·have hle:hi=lo:=by omega
   subst hle
   have HCN:Hid (cnt=hi):=HC.out hi hhn (fun t ht=>HL.out t ht) (fun h=>by have h4:=HU.out hi (Nat.le_refl _) h;omega)
   by_cases hln:hi<n
   ·obtain ⟨c1,c2⟩:=(HE.out.later hBw).at (k:=hi) (by rw [HN.out];exact hln)
    have hc:=HO.out hi wr hln hBw
    have HHI:Hid (has=decide (cmpL (xs.getD hi noL).e.pl p=0)):=HH.out hi HCN.out hln
    generalize cmpL (xs.getD hi noL).e.pl p=c at hc HHI
    generalize (xs.getD hi noL).A=A1 at c1 hc
    generalize (xs.getD hi noL).c=k1 at c1 hc
    generalize (xs.getD hi noL).e.pl.length=m1 at c1 hc
    generalize (xs.getD hi noL).e.n=n1 at c2 hc
    have hln':(hi:Int)<(n:Int):=by omega
    clear hBw
    go_wp2_with fail
    refine hc.mono ?_
    rintro e w1 ⟨rfl,hb1⟩
    go_wp2_with fail
    go_ret2
    rw [HCN.out,HHI.out]
    exact ⟨rfl,onB HBw.out hb1⟩
   ·have HHI:Hid (has=false):=HH2.out hi HCN.out (by omega)
    have hln':(n:Int)≤(hi:Int):=by omega
    go_wp2_with fail
    go_ret2
    rw [HCN.out,HHI.out]
    exact ⟨rfl,hBw⟩
theorem bsf_none (A:Option Addr) (cap:Nat) (Ap:Option Addr) (cp np:Nat) (w:World):Calls Tryz.prog 84 #[.slice A 0 cap,.slice Ap np cp,.func (.func 41) #[] #[]] w fun e w'=>e=.returned (.tuple #[.int .i64 0,.bool false])∧Below w.heap.size w w':=by
 go_enter Tryz.func84,Tryz.ntmps84
 go_wp2_with fail
 refine wp_loop_rounds 1 ?_
 rw [rounds_succ]
 go_wp2_with fail
 go_ret2
 exact ⟨rfl,Below.refl _ _⟩
theorem ifind_any (A:Option Addr) (cap:Nat) (xs:List EnL) (Ap:Option Addr) (cp:Nat) (p:List Int) (w:World) (hn:xs.length≤3000) (hE:EnsV w A cap xs) (hr:(lE xs).Pairwise fun a b=>lessL a.pl b.pl=true) (hS:Short xs p) (hP:PlAt w Ap cp p) :
  Calls Tryz.prog 62 #[.slice A xs.length cap,.slice Ap p.length cp] w fun e w'=>e=.returned (.tuple #[.int .i64 (cntE (lE xs) p:Nat),.bool (hasE (lE xs) p)])∧Below w.heap.size w w':=by
 have h:Calls Tryz.prog 84 #[.slice A xs.length cap,.slice Ap p.length cp,.func (.func 41) #[] #[]] w fun e w'=>e=.returned (.tuple #[.int .i64 (cntE (lE xs) p:Nat),.bool (hasE (lE xs) p)])∧Below w.heap.size w w':=by
  obtain ⟨-,-,rfl | ⟨b,o,rfl,hA⟩⟩:=hE
  ·exact bsf_none A cap Ap cp p.length w
  ·exact bsf_any b o cap xs Ap cp p w hn hA hr hS hP
 generalize cntE (lE xs) p=cnt at h
 generalize hasE (lE xs) p=has at h
 generalize xs.length=n at h
 generalize p.length=np at h
 clear hE hr hS hP hn
 go_enter Tryz.func62,Tryz.ntmps62
 go_wp2_with fail
 refine h.mono ?_
 rintro e w1 ⟨rfl,hb1⟩
 go_wp2_with fail
 go_ret2
 exact ⟨rfl,hb1⟩
def ownEn (w:World) (A:Option Addr) (m c:Nat) (N:Int) (T:Nat):World:=w.alloc (.cells #[.slice A m c,.int .i64 N] T)
theorem ownEn_size (w:World) (A:Option Addr) (m c:Nat) (N:Int) (T:Nat):(ownEn w A m c N T).heap.size=w.heap.size+1:=by unfold ownEn;simp
theorem ownEn_below (w:World) (A:Option Addr) (m c:Nat) (N:Int) (T:Nat):Below w.heap.size w (ownEn w A m c N T):=by unfold ownEn;go_grown
theorem ownEn_0 (w:World) (A:Option Addr) (m c:Nat) (N:Int) (T:Nat):(ownEn w A m c N T).cell? ⟨w.heap.size,0,none⟩=some (.slice A m c):=by unfold ownEn;simp
theorem ownEn_1 (w:World) (A:Option Addr) (m c:Nat) (N:Int) (T:Nat):(ownEn w A m c N T).cell? ⟨w.heap.size,1,none⟩=some (.int .i64 N):=by unfold ownEn;simp
def ownOE (w:World) (A0:Option Addr) (n cap:Nat) (A:Option Addr) (m c:Nat) (N:Int):World:=ownEn (ownOut w A0 n cap 25) A m c N 68
theorem ownOE_size (w:World) (A0:Option Addr) (n cap:Nat) (A:Option Addr) (m c:Nat) (N:Int):(ownOE w A0 n cap A m c N).heap.size=w.heap.size+2:=by unfold ownOE;rw [ownEn_size,ownOut_size]
theorem ownOE_below (w:World) (A0:Option Addr) (n cap:Nat) (A:Option Addr) (m c:Nat) (N:Int):Below w.heap.size w (ownOE w A0 n cap A m c N):=onB (ownOut_below ..) (ownEn_below ..)
theorem ownOE_0 (w:World) (A0:Option Addr) (n cap:Nat) (A:Option Addr) (m c:Nat) (N:Int):(ownOE w A0 n cap A m c N).cell? ⟨w.heap.size+1,0,none⟩=some (.slice A m c):=by
 have h:=ownEn_0 (ownOut w A0 n cap 25) A m c N 68
 rw [ownOut_size] at h
 exact h
theorem ownOE_1 (w:World) (A0:Option Addr) (n cap:Nat) (A:Option Addr) (m c:Nat) (N:Int):(ownOE w A0 n cap A m c N).cell? ⟨w.heap.size+1,1,none⟩=some (.int .i64 N):=by
 have h:=ownEn_1 (ownOut w A0 n cap 25) A m c N 68
 rw [ownOut_size] at h
 exact h
set_option maxHeartbeats 4000000 in
theorem icheck1_any (A0:Option Addr) (cap n:Nat) (D:Nat→Dm) (A:Nat→Option Addr) (C:Nat→Nat) (Ae:Option Addr) (ce:Nat) (e:En) (w:World) (hR:(allErr D n).2.2=0) (hM:DimsV w A0 cap n D A C) (hP:PlAt w Ae ce e.pl) :
  Calls Tryz.prog 40 #[.agg #[.slice A0 n cap],.agg #[.slice Ae e.pl.length ce,.int .i64 e.n]] w fun r w'=>r=.returned (errV (entOne D n e))∧Below w.heap.size w w':=by
 have hB0:=ownOE_below w A0 n cap Ae e.pl.length ce e.n
 have h:=pleaf_any A0 cap n D A C Ae ce e.pl (ownOE w A0 n cap Ae e.pl.length ce e.n) (hM.later hB0) (hP.later hB0)
 have HB0:Hid (Below w.heap.size w (ownOE w A0 n cap Ae e.pl.length ce e.n)):=hB0
 have HS:Hid (w.heap.size+1<(ownOE w A0 n cap Ae e.pl.length ce e.n).heap.size):=by show _<_;rw [ownOE_size];omega
 have H1:Hid ((ownOE w A0 n cap Ae e.pl.length ce e.n).cell? ⟨w.heap.size+1,1,none⟩=some (.int .i64 e.n)):=ownOE_1 ..
 clear hM hP hB0
 by_cases hp:placeErr D n e.pl=0
 ·by_cases hf:leafV D n e.pl=true
  ·have hv:=one_num hR hp hf
   rw [hp,hf,errV_zero] at h
   clear hp hf
   by_cases hlo:e.n < -1000000
   ·have HV:Hid (errV (entOne D n e)=.iface 45 (.int .i64 1)):=by
     show _=_
     rw [hv,if_pos (by simp [numOk];omega)];rfl
    generalize e.pl.length=m at h HB0 HS H1
    generalize e.n=N at h HB0 HS H1 hlo
    clear hv
    go_enter Tryz.func40,Tryz.ntmps40
    go_wp2_with fail
    refine h.mono ?_
    rintro r w1 ⟨rfl,hb1⟩
    have c1:=(hb1.cell (p:=⟨w.heap.size+1,1,none⟩) HS.out).trans H1.out
    have HB1:Hid (Below w.heap.size w w1):=onB HB0.out hb1
    clear hb1
    go_wp2_with fail
    go_ret
    rw [HV.out]
    exact ⟨rfl,HB1.out⟩
   ·by_cases hhi:1000000<e.n
    ·have HV:Hid (errV (entOne D n e)=.iface 45 (.int .i64 1)):=by
      show _=_
      rw [hv,if_pos (by simp [numOk];omega)];rfl
     generalize e.pl.length=m at h HB0 HS H1
     generalize e.n=N at h HB0 HS H1 hlo hhi
     clear hv
     go_enter Tryz.func40,Tryz.ntmps40
     go_wp2_with fail
     refine h.mono ?_
     rintro r w1 ⟨rfl,hb1⟩
     have c1:=(hb1.cell (p:=⟨w.heap.size+1,1,none⟩) HS.out).trans H1.out
     have HB1:Hid (Below w.heap.size w w1):=onB HB0.out hb1
     clear hb1
     go_wp2_with fail
     go_ret
     rw [HV.out]
     exact ⟨rfl,HB1.out⟩
    ·have HV:Hid (errV (entOne D n e)=.nilIface):=by
      show _=_
      rw [hv,if_neg (by simp [numOk];omega)];rfl
     generalize e.pl.length=m at h HB0 HS H1
     generalize e.n=N at h HB0 HS H1 hlo hhi
     clear hv
     go_enter Tryz.func40,Tryz.ntmps40
     go_wp2_with fail
     refine h.mono ?_
     rintro r w1 ⟨rfl,hb1⟩
     have c1:=(hb1.cell (p:=⟨w.heap.size+1,1,none⟩) HS.out).trans H1.out
     have HB1:Hid (Below w.heap.size w w1):=onB HB0.out hb1
     clear hb1
     go_wp2_with fail
     go_ret
     rw [HV.out]
     exact ⟨rfl,HB1.out⟩
  ·have hf':leafV D n e.pl=false:=by simpa using hf
   have HV:Hid (errV (entOne D n e)=.iface 45 (.int .i64 6)):=by show _=_;rw [one_leaf hR hp hf'];rfl
   rw [hp,hf',errV_zero] at h
   generalize e.pl.length=m at h HB0
   generalize e.n=N at h HB0
   clear hp hf hf' HS H1
   go_enter Tryz.func40,Tryz.ntmps40
   go_wp2_with fail
   refine h.mono ?_
   rintro r w1 ⟨rfl,hb1⟩
   have HB1:Hid (Below w.heap.size w w1):=onB HB0.out hb1
   clear hb1
   go_wp2_with fail
   go_ret
   rw [HV.out]
   exact ⟨rfl,HB1.out⟩
 ·have HV:Hid (errV (entOne D n e)=.iface 45 (.int .i64 (placeErr D n e.pl))):=by show _=_;rw [one_place hR hp,errV_some hp]
  rw [errV_some hp] at h
  generalize placeErr D n e.pl=E at h HV
  generalize leafV D n e.pl=lf at h
  generalize e.pl.length=m at h HB0
  generalize e.n=N at h HB0
  clear hp HS H1
  go_enter Tryz.func40,Tryz.ntmps40
  go_wp2_with fail
  refine h.mono ?_
  rintro r w1 ⟨rfl,hb1⟩
  have HB1:Hid (Below w.heap.size w w1):=onB HB0.out hb1
  clear hb1
  go_wp2_with fail
  go_ret
  rw [HV.out]
  exact ⟨rfl,HB1.out⟩
end Go.Proofs.YtbhanigcjdegjaaGreatDoor
namespace Go.Proofs.YtbhanigcjdegjaaGreatDoor
open Go Go.ChangeShapes Go.WideShapes Go.ChangeAt Go.RowKit
set_option maxRecDepth 20000
theorem take_join {α:Type} {a b:List α} {k:Nat} (h:a.length=k):(a ++ b).take k=a:=by subst h;simp
theorem drop_join {α:Type} {a b:List α} {k:Nat} (h:a.length=k):(a ++ b).drop k=b:=by subst h;simp
theorem head_cells {C:List Value} {xs:List EnL} (hC:C.take (xs.length*2)=cellsE xs) {i:Nat} (hi:i≤xs.length):C.take (i*2)=cellsE (xs.take i):=by
 rw [←cellsE_take,←hC,List.take_take,Nat.min_eq_left (by omega)]
theorem ins_cells {C C1 C2:List Value} {xs:List EnL} {x:EnL} {i:Nat} (hC:C.take (xs.length*2)=cellsE xs) (hlen:(xs.length+1)*2≤C.length) (hi:i≤xs.length)
  (h1:C1=C.take ((i+1)*2) ++ cellsE (xs.drop i) ++ C.drop ((i+1)*2+(cellsE (xs.drop i)).length)) (h2:C2=C1.take (i*2) ++ cellsE [x] ++ C1.drop (i*2+(cellsE [x]).length)) :
  C2.length=C.length∧C2.take ((xs.take i ++ x :: xs.drop i).length*2)=cellsE (xs.take i ++ x :: xs.drop i):=by
 have hd:(cellsE (xs.drop i)).length=(xs.length-i)*2:=by rw [cellsE_len,List.length_drop]
 have hx:(cellsE [x]).length=2:=by rw [cellsE_len];rfl
 have e1:C1.take (i*2)=cellsE (xs.take i):=by
  rw [h1,List.append_assoc,List.take_append_of_le_length (by rw [List.length_take];omega),List.take_take,Nat.min_eq_left (by omega)]
  exact head_cells hC hi
 have e2:C1.drop (i*2+(cellsE [x]).length)=cellsE (xs.drop i) ++ C.drop ((i+1)*2+(cellsE (xs.drop i)).length):=by
  rw [h1,List.append_assoc,hx]
  exact drop_join (by rw [List.length_take];omega)
 rw [h2,e1,e2]
 refine ⟨?_,?_⟩
 ·simp only [List.length_append,cellsE_len,List.length_take,List.length_drop,List.length_cons,List.length_nil]
  omega
 ·have hl:(xs.take i ++ x :: xs.drop i).length=xs.length+1:=by simp;omega
  rw [hl,←List.append_assoc]
  rw [show cellsE (xs.take i ++ x :: xs.drop i)=cellsE (xs.take i) ++ cellsE [x] ++ cellsE (xs.drop i) by rw [show x :: xs.drop i=[x] ++ xs.drop i from rfl,cellsE_append,cellsE_append,List.append_assoc]]
  exact take_join (by simp only [List.length_append,cellsE_len,List.length_take,List.length_drop,List.length_cons,List.length_nil];omega)
theorem grow_cells {C C1 C2:List Value} {xs:List EnL} {x:EnL} {i:Nat} (hC:C.take (i*2)=cellsE (xs.take i)) (hlen:(xs.length+1)*2≤C.length) (hi:i≤xs.length)
  (h1:C1=C.take (i*2) ++ cellsE [x] ++ C.drop (i*2+(cellsE [x]).length)) (h2:C2=C1.take ((i+1)*2) ++ cellsE (xs.drop i) ++ C1.drop ((i+1)*2+(cellsE (xs.drop i)).length)) :
  C2.length=C.length∧C2.take ((xs.take i ++ x :: xs.drop i).length*2)=cellsE (xs.take i ++ x :: xs.drop i):=by
 have hd:(cellsE (xs.drop i)).length=(xs.length-i)*2:=by rw [cellsE_len,List.length_drop]
 have hx:(cellsE [x]).length=2:=by rw [cellsE_len];rfl
 have hc1:C1.length=C.length:=by
  rw [h1,hC]
  simp only [List.length_append,cellsE_len,List.length_take,List.length_drop,List.length_cons,List.length_nil]
  omega
 have e1:C1.take ((i+1)*2)=cellsE (xs.take i) ++ cellsE [x]:=by
  rw [h1,hC]
  exact take_join (by simp only [List.length_append,cellsE_len,List.length_take,List.length_cons,List.length_nil];omega)
 rw [h2,e1]
 refine ⟨?_,?_⟩
 ·simp only [List.length_append,cellsE_len,List.length_take,List.length_drop,List.length_cons,List.length_nil,hc1]
  omega
 ·have hl:(xs.take i ++ x :: xs.drop i).length=xs.length+1:=by simp;omega
  rw [hl]
  rw [show cellsE (xs.take i ++ x :: xs.drop i)=cellsE (xs.take i) ++ cellsE [x] ++ cellsE (xs.drop i) by rw [show x :: xs.drop i=[x] ++ xs.drop i from rfl,cellsE_append,cellsE_append,List.append_assoc]]
  exact take_join (by simp only [List.length_append,cellsE_len,List.length_take,List.length_drop,List.length_cons,List.length_nil];omega)
theorem del_cells {C C1 C2:List Value} {xs:List EnL} {z0 z1:Value} {i:Nat} (hC:C.take (xs.length*2)=cellsE xs) (hlen:xs.length*2≤C.length) (hi:i<xs.length)
  (h1:C1=C.take (i*2) ++ cellsE (xs.drop (i+1)) ++ C.drop (i*2+(cellsE (xs.drop (i+1))).length)) (h2:C2=C1.take ((xs.length-1)*2) ++ [z0,z1] ++ C1.drop ((xs.length-1)*2+2)) :
  C2.length=C.length∧C2.take ((xs.take i ++ xs.drop (i+1)).length*2)=cellsE (xs.take i ++ xs.drop (i+1)):=by
 have hd:(cellsE (xs.drop (i+1))).length=(xs.length-(i+1))*2:=by rw [cellsE_len,List.length_drop]
 have hc1:C1.length=C.length:=by
  rw [h1]
  simp only [List.length_append,cellsE_len,List.length_take,List.length_drop]
  omega
 have e1:C1.take ((xs.length-1)*2)=cellsE (xs.take i) ++ cellsE (xs.drop (i+1)):=by
  rw [h1,head_cells hC (by omega)]
  exact take_join (by simp only [List.length_append,cellsE_len,List.length_take,List.length_drop];omega)
 have hl:(xs.take i ++ xs.drop (i+1)).length=xs.length-1:=by simp;omega
 rw [h2,hl,cellsE_append,e1]
 refine ⟨?_,?_⟩
 ·simp only [List.length_append,cellsE_len,List.length_take,List.length_drop,List.length_cons,List.length_nil,hc1]
  omega
 ·rw [List.append_assoc _ _ (C1.drop _)]
  exact take_join (by simp only [List.length_append,cellsE_len,List.length_take,List.length_drop];omega)
theorem cellsE_set {xs:List EnL}:∀ {i:Nat} (n:Int),i<xs.length→(cellsE xs).set (i*2+1) (.int .i64 n)=cellsE (xs.set i ⟨⟨(xs.getD i noL).e.pl,n⟩,(xs.getD i noL).A,(xs.getD i noL).c⟩):=by
 induction xs with
 | nil=>intro i n h;cases h
 | cons x r ih =>
  intro i n h
  cases i with
  | zero=>simp [cellsE]
  | succ i =>
   rw [show (i+1)*2+1=(i*2+1)+1+1 by omega]
   simp only [cellsE,List.set_cons_succ,List.getD_cons_succ]
   rw [ih n (by simpa using h)]
theorem RowE.setN {w:World} {g cap:Nat} {xs:List EnL} (h:RowE w g cap xs) {i:Nat} (hi:i<xs.length) (n:Int):RowE (w.setCell ⟨g,i*2+1,none⟩ (.int .i64 n)) g cap (xs.set i ⟨⟨(xs.getD i noL).e.pl,n⟩,(xs.getD i noL).A,(xs.getD i noL).c⟩)∧w.grownBy (w.setCell ⟨g,i*2+1,none⟩ (.int .i64 n)) (some g):=by
 obtain ⟨⟨cur,h1,h2,h3⟩,h4,h5,h6⟩:=h
 rw [setCell_eq_setRow w g (i*2+1) cur _ (0,0) _ h1]
 refine ⟨?_,grown_setRow ..⟩
 refine ⟨⟨_,setRow_heap w g cur _ _ _ h1,by simpa using h2,?_⟩,by simpa using h4,h5,fun y hy=>?_⟩
 ·rw [Array.toList_setIfInBounds,List.length_set,←cellsE_set n hi,←h3,List.take_set]
 ·refine PlTy.grown (g:=g) ?_ h1 (grown_setRow ..)
  rcases List.mem_or_eq_of_mem_set hy with hy | rfl
  ·exact h6 y hy
  ·exact h6 (xs.getD i noL) (enl_mem hi)
theorem lE_append (a b:List EnL):lE (a ++ b)=lE a ++ lE b:=by simp [lE]
theorem lE_take (a:List EnL) (k:Nat):lE (a.take k)=(lE a).take k:=by simp [lE]
theorem lE_drop (a:List EnL) (k:Nat):lE (a.drop k)=(lE a).drop k:=by simp [lE]
theorem lE_ins (xs:List EnL) (x:EnL) (i:Nat):lE (xs.take i ++ x :: xs.drop i)=(lE xs).take i ++ x.e :: (lE xs).drop i:=by simp [lE]
theorem set_new {l:List En} {p:List Int} (h:hasE l p=false) (n:Int):setL l p n=l.take (cntE l p) ++ ⟨p,n⟩ :: l.drop (cntE l p):=by unfold setL;rw [h];rfl
theorem set_old {l:List En} {p:List Int} (h:hasE l p=true) (n:Int):setL l p n=l.set (cntE l p) ⟨(l.getD (cntE l p) noEn).pl,n⟩∧cntE l p<l.length∧(l.getD (cntE l p) noEn).pl=p:=by
 have hi:cntE l p<l.length:=by
  rcases Nat.lt_or_ge (cntE l p) l.length with h1 | h1
  ·exact h1
  ·rw [(has_out rfl h1).1] at h;cases h
 have h2:=has_cmp rfl hi
 rw [h] at h2
 have h3:(l.getD (cntE l p) noEn).pl=p:=by
  rcases cmpL_three (l.getD (cntE l p) noEn).pl p with ⟨e1,_⟩ | ⟨_,_,e3⟩ | ⟨e1,_⟩
  ·rw [e1] at h2;cases h2
  ·exact e3
  ·rw [e1] at h2;cases h2
 refine ⟨?_,hi,h3⟩
 unfold setL
 rw [h,h3,if_pos rfl,List.set_eq_take_append_cons_drop,if_pos hi]
theorem lE_set (xs:List EnL) (i:Nat) (y:EnL):lE (xs.set i y)=(lE xs).set i y.e:=by simp [lE,List.map_set]
end Go.Proofs.YtbhanigcjdegjaaGreatDoor
namespace Go.Proofs.YtbhanigcjdegjaaGreatDoor
open Go.ChangeShapes Go.WideShapes Go.ChangeAt Go.RowKit
set_option maxRecDepth 20000
set_option maxHeartbeats 2000000 in
theorem leafs_any (d:Dm) (A:Option Addr) (cap:Nat) (i:Int) (w:World) (hM:MemsV w A cap d.n d.mem):Calls Tryz.prog 55 #[dimV d A cap,.int .i64 i] w fun e w'=>(∃ A' c',e=.returned (.tuple #[.slice A' (lst (treeErr d [i]) (leafsOf d.mem d.n i)).length c',errV (treeErr d [i])])∧IntsAt w' A' c' (lst (treeErr d [i]) (leafsOf d.mem d.n i)))∧Below w.heap.size w w':=by
 have hB0:=ownQ_below w d A cap i 76 3
 have hck:=tcheck_any d A cap _ 1 [i] (ownQ w d A cap i 76 3) (hM.later hB0) (by simp) (ownQ_ints ..)
 have HB0:Hid (Below w.heap.size w (ownQ w d A cap i 76 3)):=hB0
 have HM:Hid (MemsV w A cap d.n d.mem):=hM
 unfold dimV at hck ⊢
 simp only [List.length_singleton] at hck
 clear hM hB0
 by_cases he:treeErr d [i]=0
 ·obtain ⟨hd,k,rfl,hk⟩:=treeErr_in he
  rw [he,errV_zero] at hck
  obtain ⟨-,-,hd2,-⟩:=dimErr_right hd
  have ht:Tr d.mem d.n:=Tr.of hd
  have HR:Hid (lst (treeErr d [(k:Int)]) (leafsOf d.mem d.n k)=selTo (leafIn d.mem d.n k) d.n):=lst_ok he _
  have HE:Hid (errV (treeErr d [(k:Int)])=.nilIface):=by show _=_;rw [he];rfl
  have HT:Hid (Tr d.mem d.n):=ht
  clear he hd ht
  go_enter Tryz.func55,Tryz.ntmps55
  go_wp2_with fail
  refine hck.mono ?_
  rintro e w1 ⟨rfl,hb1⟩
  have hB:Below w.heap.size w w1:=onB HB0.out hb1
  have hz:w.heap.size+1<w1.heap.size:=by have:=hb1.size;rw [ownQ_size] at this;omega
  have hz0:w.heap.size<w1.heap.size:=by omega
  have h2:w1.cell? ⟨w.heap.size,2,none⟩=some (.slice A d.n cap):=(hb1.cell (p:=⟨w.heap.size,2,none⟩) (by show w.heap.size<_;rw [ownQ_size];omega)).trans (ownQ_dim ..)
  have h3:w1.cell? ⟨w.heap.size+1,0,none⟩=some (.int .i64 k):=(hb1.cell (p:=⟨w.heap.size+1,0,none⟩) (by show w.heap.size+1<_;rw [ownQ_size];omega)).trans (ownQ_int ..)
  obtain ⟨hcap,h0 | ⟨b,o,rfl,hMs⟩⟩:=HM.out.later hB
  ·omega
  have hpl:=places_any 78 w.heap.size (w.heap.size+1) leafs1_in (some ⟨b,o,none⟩) d.n cap (leafIn d.mem d.n k) w1 hd2 (fun j w' hj hw'=>leafs1_any b o d.n cap j w.heap.size (w.heap.size+1) d.mem k w' hj hd2 HT.out (hMs.later hw') (Nat.lt_of_lt_of_le hz0 hw'.size) (Nat.lt_of_lt_of_le hz hw'.size) ((hw'.cell (p:=⟨w.heap.size,2,none⟩) hz0).trans h2) ((hw'.cell (p:=⟨w.heap.size+1,0,none⟩) hz).trans h3))
  have HB:Hid (Below w.heap.size w w1):=hB
  clear hb1 hck hMs h3 hB
  go_wp2_with fail
  refine hpl.mono ?_
  rintro e w2 ⟨⟨A',c',rfl,hI⟩,hb2⟩
  go_wp2_with fail
  go_ret2
  rw [HR.out,HE.out]
  exact ⟨⟨A',c',rfl,hI⟩,onB HB.out hb2⟩
 ·have HR:Hid (lst (treeErr d [i]) (leafsOf d.mem d.n i)=[]):=lst_bad he _
  have HE:Hid (errV (treeErr d [i])=.iface 45 (.int .i64 (treeErr d [i]))):=errV_some he
  rw [errV_some he] at hck
  clear he
  generalize treeErr d [i]=c at hck HR HE
  go_enter Tryz.func55,Tryz.ntmps55
  go_wp2_with fail
  refine hck.mono ?_
  rintro e w1 ⟨rfl,hb1⟩
  go_wp2_with fail
  go_ret2
  rw [HR.out,HE.out]
  exact ⟨⟨none,0,rfl,IntsAt.nil _ _ _⟩,onB HB0.out hb1⟩
end Go.Proofs.YtbhanigcjdegjaaGreatDoor
