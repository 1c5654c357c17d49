/-
  Where a name is among names that rise: what slices.BinarySearch over strings and the closure of reckon.Value answer, called in whatever memory.
-/
import Derived.Test.YtfgegmpoejilnaaGreatDoorJGAW
namespace Go.Proofs.YtfgegmpoejilnaaGreatDoor
open Go.ChangeShapes Go.WideShapes Go.ChangeAt Go.RowKit
set_option maxRecDepth 20000
theorem first_false (p:Nat→Bool):∀ n,p n=false→∃ k,k≤n∧p k=false∧∀ t,t<k→p t=true:=by
 intro n
 induction n with
 | zero=>intro h;exact ⟨0,Nat.le_refl _,h,fun t ht=>absurd ht (Nat.not_lt_zero _)⟩
 | succ n ih =>
  intro h
  by_cases e:∃ j,j≤n∧p j=false
  ·obtain ⟨j,hj,h1⟩:=e
   clear ih
   have hw:∀ m j,j≤m→p j=false→∃ k,k≤j∧p k=false∧∀ t,t<k→p t=true:=by
    intro m
    induction m with
    | zero=>intro j hj h1;exact ⟨j,Nat.le_refl _,h1,fun t ht=>by omega⟩
    | succ m ih =>
     intro j hj h1
     by_cases e2:∃ i,i<j∧p i=false
     ·obtain ⟨i,hi,h2⟩:=e2
      obtain ⟨k,h3,h4,h5⟩:=ih i (by omega) h2
      exact ⟨k,by omega,h4,h5⟩
     ·refine ⟨j,Nat.le_refl _,h1,fun t ht=>?_⟩
      cases hp:p t
      ·exact absurd ⟨t,ht,hp⟩ e2
      ·rfl
   obtain ⟨k,h2,h3,h4⟩:=hw j j (Nat.le_refl _) h1
   exact ⟨k,by omega,h3,h4⟩
  ·refine ⟨n+1,Nat.le_refl _,h,fun t ht=>?_⟩
   cases hp:p t
   ·exact absurd ⟨t,by omega,hp⟩ e
   ·rfl
theorem not_less (x:ByteArray):Op.bytesLess x.toList x.toList=false:=by
 rw [bytesLess_eq]
 exact decide_eq_false (List.lt_irrefl _)
theorem bs_where {N:List ByteArray} (hr:∀ j,1≤j→j<N.length→downS N j=false) (x:ByteArray) (S:Nat→ByteArray) (hS:S=fun j=>if j<N.length then N.getD j noS else x) :
  (decide (Lib.bsGo (fun t=>Op.bytesLess (S t).toList x.toList) N.length 0 N.length<N.length∧S (Lib.bsGo (fun t=>Op.bytesLess (S t).toList x.toList) N.length 0 N.length)=x)=decide (0≤whereS N x)) ∧
  (0≤whereS N x→(Lib.bsGo (fun t=>Op.bytesLess (S t).toList x.toList) N.length 0 N.length:Int)=whereS N x):=by
 have hup:=rise_all hr
 have s1:∀ j,j<N.length→S j=N.getD j noS:=fun j hj=>by rw [hS];exact if_pos hj
 have s2:∀ j,N.length≤j→S j=x:=fun j hj=>by rw [hS];exact if_neg (by omega)
 obtain ⟨k,hk,h1,h2⟩:=first_false (fun t=>Op.bytesLess (S t).toList x.toList) N.length (by show Op.bytesLess (S N.length).toList x.toList=false;rw [s2 _ (Nat.le_refl _)];exact not_less x)
 have h1':Op.bytesLess (S k).toList x.toList=false:=h1
 have h2':∀ t,t<k→Op.bytesLess (S t).toList x.toList=true:=h2
 have h3:∀ t,k≤t→Op.bytesLess (S t).toList x.toList=false:=by
  intro t ht
  by_cases e:N.length≤t
  ·rw [s2 t e];exact not_less x
  ·by_cases e2:t=k
   ·rw [e2];exact h1'
   ·rw [s1 t (by omega),bytesLess_eq]
    rw [s1 k (by omega),bytesLess_eq] at h1'
    refine decide_eq_false fun h=>of_decide_eq_false h1' (List.lt_trans (hup k t (by omega) (by omega)) h)
 have hbs:Lib.bsGo (fun t=>Op.bytesLess (S t).toList x.toList) N.length 0 N.length=k:=Lib.bsGo_spec _ k h2 h3 _ _ _ (by omega) (Nat.zero_le _) hk
 rw [hbs]
 rcases where_cases N x with ⟨hw,hn⟩ | ⟨i,hw,hi,he⟩
 ·refine ⟨?_,fun h=>by omega⟩
  rw [hw,decide_eq_false (show ¬ (0:Int)≤-1 by omega)]
  refine decide_eq_false fun h=>?_
  rw [s1 k h.1] at h
  exact hn k h.1 h.2
 ·have hki:k=i:=by
   have hle:k≤i:=by
    apply Nat.le_of_not_lt
    intro h
    have:=h2' i h
    rw [s1 i hi,he,not_less] at this
    cases this
   by_cases e:k=i
   ·exact e
   ·have hlt:=hup k i (by omega) hi
    rw [s1 k (by omega),bytesLess_eq] at h1'
    rw [he] at hlt
    exact absurd hlt (of_decide_eq_false h1')
  subst hki
  refine ⟨?_,fun _=>hw.symm⟩
  rw [hw,decide_eq_true (show (0:Int)≤(k:Int) by omega)]
  exact decide_eq_true ⟨hi,by rw [s1 k hi];exact he⟩
theorem bsearch_any (An:Option Addr) (cn:Nat) (N:List ByteArray) (x:ByteArray) (w:World) (hN:NmV w An cn N) (hr:∀ j,1≤j→j<N.length→downS N j=false) :
  Calls Tryz.prog 123 #[.slice An N.length cn,.string x] w fun e w'=>(∃ i:Nat,e=.returned (.tuple #[.int .i64 i,.bool (decide (0≤whereS N x))])∧(0≤whereS N x→(i:Int)=whereS N x))∧Below w.heap.size w w':=by
 obtain ⟨h1,h2,h3,h4 | ⟨b,o,rfl,h5,h6⟩⟩:=hN
 ·subst h4
  refine (Any2.slices_BinarySearch_string_empty Tryz.lays26 An cn x w).mono ?_
  rintro e w' ⟨rfl,rfl⟩
  exact ⟨⟨0,rfl,fun h=>absurd h (by show ¬ (0:Int)≤whereS [] x;unfold whereS;show ¬ (0:Int)≤-1;omega)⟩,Below.refl _ _⟩
 ·obtain ⟨e1,e2⟩:=bs_where hr x (fun j=>if j<N.length then N.getD j noS else x) rfl
  refine (Any2.slices_BinarySearch_string Tryz.lays26 b o N.length cn (fun j=>if j<N.length then N.getD j noS else x) x w h2 (fun j hj=>by simp only [if_pos hj];exact h6 j hj)).mono ?_
  rintro e w' ⟨rfl,q,rfl⟩
  exact ⟨⟨_,by rw [e1],e2⟩,below_drewN (Below.refl _ _) _⟩
def isC (N:List ByteArray) (C:List (Int×Int)) (x:ByteArray):Int×Int:=if 0≤whereS N x then C.getD (whereS N x).toNat noC else noC
def isE (N:List ByteArray) (x:ByteArray):Int:=if 0≤whereS N x then 0 else 5
set_option maxHeartbeats 1000000 in
theorem value1_any (q r:Nat) (An:Option Addr) (cn:Nat) (N:List ByteArray) (Ac:Option Addr) (cc:Nat) (C:List (Int×Int)) (x:ByteArray) (w:World) (hq:w.cell? ⟨q,0,none⟩=some (.slice An N.length cn)) (hrr:w.cell? ⟨r,0,none⟩=some (.slice Ac C.length cc)) (hN:NmV w An cn N) (hC:CelV w Ac cc C) (hck:ckErr N C=0) :
  Calls Tryz.prog 122 #[.string x,.pointer (some ⟨q,0,none⟩),.pointer (some ⟨r,0,none⟩)] w fun e w'=>e=.returned (.tuple #[.agg #[.int .i64 (isC N C x).1,.int .i64 (isC N C x).2],errV (isE N x)])∧Below w.heap.size w w':=by
 obtain ⟨hlen,-,hr⟩:=ck_right hck
 have hbs:=fun w' (hb:Below w.heap.size w w')=>bsearch_any An cn N x w' (hN.later hb) hr
 have hrl:=World.block_lt_of_cell? _ _ hrr
 have hql:=World.block_lt_of_cell? _ _ hq
 simp only at hrl hql
 by_cases h0:0≤whereS N x
 ·rw [decide_eq_true h0] at hbs
  obtain ⟨i,hi,hil,-⟩:∃ i:Nat,whereS N x=(i:Int)∧i<N.length∧N.getD i noS=x:=by
   rcases where_cases N x with ⟨hw,-⟩ | h
   ·omega
   ·exact h
  obtain ⟨-,-,hC3⟩:=hC
  obtain ⟨b,o,rfl,hCA⟩:=hC3.resolve_left (fun e=>by rw [e] at hlen;simp at hlen;omega)
  obtain ⟨c,hc⟩:∃ c,C.getD i noC=c:=⟨_,rfl⟩
  have hic:isC N C x=c:=by unfold isC;rw [if_pos h0,hi];exact hc
  have hie:isE N x=0:=by unfold isE;rw [if_pos h0]
  have HC:Hid (CelAt w b o C):=hCA
  have HI:Hid (∀ j:Nat,(0≤whereS N x→(j:Int)=whereS N x)→j=i):=fun j hj=>by have:=hj h0;omega
  have HCc:Hid (C.getD i noC=c):=hc
  have hil':(i:Int)<(C.length:Int):=by omega
  rw [hic,hie,errV_zero]
  obtain ⟨m,hm⟩:∃ m,C.length=m:=⟨_,rfl⟩
  have HM:Hid (C.length=m):=hm
  rw [hm] at hrr hil'
  clear hck hN hr hi hic hie hC3 hCA h0 hc hm hil hlen
  go_enter Tryz.func122,Tryz.ntmps122
  go_wp2_with fail
  refine (hbs _ (by go_grown)).mono ?_
  rintro e w1 ⟨⟨j,rfl,hj⟩,hb⟩
  have hji:=HI.out j hj
  subst hji
  obtain ⟨hbc,hbf⟩:=bcell hb
  have hz:=bsize hb
  simp at hz
  have hb1:Below w.heap.size w w1:=onB (by go_grown) hb
  clear hb
  obtain ⟨c0,c1⟩:=HC.out.2 j (by rw [HM.out];omega)
  rw [HCc.out] at c0 c1
  have HB1:Hid (Below w.heap.size w w1):=hb1
  have hbl:b<w.heap.size:=HC.out.1
  clear hb1 hbs hq hj
  go_wp2_with fail
  refine bodyPost_ret (v:=.tuple #[.agg #[.int .i64 c.1,.int .i64 c.2],.nilIface]) (by simp [results,Tryz.results122,go_sem,hbc]) rfl ⟨rfl,?_⟩
  exact ((HB1.out.setCell (Nat.le_refl _) _).setCell (Nat.le_refl _) _)
 ·rw [decide_eq_false h0] at hbs
  have hic:isC N C x=noC:=by unfold isC;rw [if_neg h0]
  have hie:isE N x=5:=by unfold isE;rw [if_neg h0]
  rw [hic,hie,errV_some (by decide)]
  unfold noC
  clear hck hN hr hic hie hC hlen
  go_enter Tryz.func122,Tryz.ntmps122
  go_wp2_with fail
  refine (hbs _ (by go_grown)).mono ?_
  rintro e w1 ⟨⟨j,rfl,hj⟩,hb⟩
  obtain ⟨hbc,hbf⟩:=bcell hb
  have hz:=bsize hb
  simp at hz
  have hb1:Below w.heap.size w w1:=onB (by go_grown) hb
  have HB1:Hid (Below w.heap.size w w1):=hb1
  clear hb hb1 hbs hq hj h0
  go_wp2_with fail
  refine bodyPost_ret (v:=.tuple #[.agg #[.int .i64 0,.int .i64 0],.iface 95 (.int .i64 5)]) (by simp [results,Tryz.results122,go_sem,hbc]) rfl ⟨rfl,?_⟩
  first | exact HB1.out | exact ((HB1.out.setCell (Nat.le_refl _) _).setCell (Nat.le_refl _) _)
def AskN (fn q r:Nat) (w:World) (N:List ByteArray) (C:List (Int×Int)):Prop := ∀ (x:ByteArray) (w':World),Below w.heap.size w w'→Calls Tryz.prog fn #[.string x,.pointer (some ⟨q,0,none⟩),.pointer (some ⟨r,0,none⟩)] w' fun e w''=>e=.returned (.tuple #[.agg #[.int .i64 (isC N C x).1,.int .i64 (isC N C x).2],errV (isE N x)])∧Below w'.heap.size w' w''
def oneC (N:List ByteArray) (C T:List (Int×Int)) (x:Nd):Int×Int:=if x.op=1 then ofP x.n else if x.op=2 then isC N C x.name else opP x.op (T.getD x.left.toNat noC) (T.getD x.right.toNat noC)
def oneE (N:List ByteArray) (x:Nd):Int:=if x.op=2 then isE N x.name else 0
theorem one_numK {N:List ByteArray} {C T:List (Int×Int)} {x:Nd} (h:x.op=1):oneC N C T x=ofP x.n∧oneE N x=0:=by unfold oneC oneE;rw [if_pos h,if_neg (by omega)];exact ⟨rfl,rfl⟩
theorem one_ref {N:List ByteArray} {C T:List (Int×Int)} {x:Nd} (h:x.op=2):oneC N C T x=isC N C x.name∧oneE N x=isE N x.name:=by unfold oneC oneE;rw [if_neg (by omega),if_pos h,if_pos h];exact ⟨rfl,rfl⟩
theorem one_bin {N:List ByteArray} {C T:List (Int×Int)} {x:Nd} (h:2<x.op):oneC N C T x=opP x.op (T.getD x.left.toNat noC) (T.getD x.right.toNat noC)∧oneE N x=0:=by unfold oneC oneE;rw [if_neg (by omega),if_neg (by omega),if_neg (by omega)];exact ⟨rfl,rfl⟩
theorem op_yes {o:Int} {a b:Int×Int} (ha:okC a) (hb:okC b):(o=3→OpTo 125 a.1 a.2 b.1 b.2 (opP o a b).1 (opP o a b).2 .nilIface)∧(o=4→OpTo 124 a.1 a.2 b.1 b.2 (opP o a b).1 (opP o a b).2 .nilIface)∧(o=5→OpTo 191 a.1 a.2 b.1 b.2 (opP o a b).1 (opP o a b).2 .nilIface)∧(o=6→OpTo 192 a.1 a.2 b.1 b.2 (opP o a b).1 (opP o a b).2 .nilIface):=by
 refine ⟨?_,?_,?_,?_⟩ <;> rintro rfl
 ·exact add_yes _ _ _ _ ha hb
 ·exact sub_yes _ _ _ _ ha hb
 ·exact mul_yes _ _ _ _ ha hb
 ·exact div_yes _ _ _ _ ha hb
theorem cel_ok {T:List (Int×Int)} (hT:∀ c∈T,okC c) (i:Nat):okC (T.getD i noC):=by
 rw [List.getD_eq_getElem?_getD]
 cases h:T[i]? with
 | none=>exact okC_no
 | some c=>exact hT c (List.mem_of_getElem? h)
set_option maxHeartbeats 4000000 in
theorem rkone_any (fn q r:Nat) (hent:∀ (args:Array Value) (w:World),(callFunc fn args).run Tryz.prog w=.ok (.enter fn args) w) (N:List ByteArray) (C T:List (Int×Int)) (At:Option Addr) (ct:Nat) (x:Nd) (w:World) (hx:ndErr x T.length=0) (hn:T.length≤30) (hT:CelV w At ct T) (hok:∀ c∈T,okC c) (hask:AskN fn q r w N C) :
  Calls Tryz.prog 156 #[ndV x,.slice At T.length ct,.func (.func fn) #[] #[.pointer (some ⟨q,0,none⟩),.pointer (some ⟨r,0,none⟩)]] w fun e w'=>e=.returned (.tuple #[.agg #[.int .i64 (oneC N C T x).1,.int .i64 (oneC N C T x).2],errV (oneE N x)])∧Below w.heap.size w w':=by
 rw [ndV_def]
 have ho:1≤x.op∧x.op≤6:=by
  unfold ndErr at hx
  split at hx
  ·cases hx
  ·omega
 by_cases h1:x.op=1
 ·obtain ⟨e1,e2⟩:=one_numK (N:=N) (C:=C) (T:=T) h1
  rw [e1,e2,errV_zero,h1]
  have hof:=of_any x.n
  clear hx hT hask e1 e2 h1
  go_enter Tryz.func156,Tryz.ntmps156
  go_wp2_with fail
  refine (hof _).mono ?_
  rintro e w1 ⟨rfl,hb⟩
  obtain ⟨hbc,hbf⟩:=bcell hb
  have hz:=bsize hb
  simp at hz
  have hb1:Below w.heap.size w w1:=onB (by go_grown) hb
  have HB1:Hid (Below w.heap.size w w1):=hb1
  clear hb hb1 hof
  go_wp2_with fail
  refine bodyPost_ret (v:=.tuple #[.agg #[.int .i64 (ofP x.n).1,.int .i64 (ofP x.n).2],.nilIface]) (by simp [results,Tryz.results156,go_sem,hbc]) rfl ⟨rfl,?_⟩
  exact ((HB1.out.setCell (by simp) _).setCell (by simp) _)
 by_cases h2:x.op=2
 ·obtain ⟨e1,e2⟩:=one_ref (N:=N) (C:=C) (T:=T) h2
  rw [e1,e2,h2]
  have has:=hask x.name
  obtain ⟨c,hc⟩:∃ c,isC N C x.name=c:=⟨_,rfl⟩
  obtain ⟨er,her⟩:∃ er,errV (isE N x.name)=er:=⟨_,rfl⟩
  rw [hc,her] at has
  rw [hc,her]
  clear hx hT hask e1 e2 h2 hc her
  go_enter Tryz.func156,Tryz.ntmps156
  go_wp2_with fail
  refine (has _ (by go_grown)).mono ?_
  rintro e w1 ⟨rfl,hb⟩
  obtain ⟨hbc,hbf⟩:=bcell hb
  have hz:=bsize hb
  simp at hz
  have hb1:Below w.heap.size w w1:=onB (by go_grown) hb
  have HB1:Hid (Below w.heap.size w w1):=hb1
  clear hb hb1 has
  go_wp2_with fail
  refine bodyPost_ret (v:=.tuple #[.agg #[.int .i64 c.1,.int .i64 c.2],er]) (by simp [results,Tryz.results156,go_sem,hbc]) rfl ⟨rfl,?_⟩
  exact ((HB1.out.setCell (by simp) _).setCell (by simp) _)
 obtain ⟨e1,e2⟩:=one_bin (N:=N) (C:=C) (T:=T) (x:=x) (by omega)
 obtain ⟨a1,a2,a3,a4⟩:=nd_sides hx (by omega)
 obtain ⟨a,ha⟩:∃ a:Nat,x.left=a:=⟨x.left.toNat,by omega⟩
 obtain ⟨c,hc⟩:∃ c:Nat,x.right=c:=⟨x.right.toNat,by omega⟩
 rw [e1,e2,errV_zero,ha,hc,Int.toNat_natCast,Int.toNat_natCast]
 obtain ⟨-,-,hT3⟩:=hT
 obtain ⟨b,o,rfl,hTA⟩:=hT3.resolve_left (fun e=>by rw [e] at a2;simp at a2;omega)
 obtain ⟨p3,p4,p5,p6⟩:=op_yes (o:=x.op) (cel_ok hok a) (cel_ok hok c)
 obtain ⟨y0,y1⟩:=hTA.2 a (by omega)
 obtain ⟨z0,z1⟩:=hTA.2 c (by omega)
 have hbl:=hTA.1
 obtain ⟨u,hu⟩:∃ u,T.getD a noC=u:=⟨_,rfl⟩
 obtain ⟨v,hv⟩:∃ v,T.getD c noC=v:=⟨_,rfl⟩
 rw [hu] at y0 y1 p3 p4 p5 p6 ⊢
 rw [hv] at z0 z1 p3 p4 p5 p6 ⊢
 obtain ⟨ov,hov⟩:∃ ov,x.op=ov:=⟨_,rfl⟩
 rw [hov] at p3 p4 p5 p6 ho h1 h2 ⊢
 obtain ⟨t,ht⟩:∃ t,opP ov u v=t:=⟨_,rfl⟩
 rw [ht] at p3 p4 p5 p6 ⊢
 unfold OpTo at p3 p4 p5 p6
 obtain ⟨m,hm⟩:∃ m,T.length=m:=⟨_,rfl⟩
 rw [hm] at hn a2 a4 ⊢
 have hai:(a:Int)<(m:Int):=by omega
 have hci:(c:Int)<(m:Int):=by omega
 have hmi:(m:Int)≤30:=by omega
 have hovc:ov=3∨ov=4∨ov=5∨ov=6:=by omega
 clear hx hask e1 e2 h1 h2 hu hv ht hTA hT3 hok ho hov a1 a3
 rcases hovc with rfl | rfl | rfl | rfl
 ·have hp:=p3 rfl
  clear p3 p4 p5 p6
  go_enter Tryz.func156,Tryz.ntmps156
  go_wp2_with fail
  go_region_law ((go_simp;refine (hp _).mono ?_;rintro e w1 ⟨rfl,hb⟩;obtain ⟨hbc,hbf⟩:=bcell hb;have hz:=bsize hb;simp at hz;have HB1:Hid (Below w.heap.size w w1):=(onB (by go_grown) hb);clear hb))
  all_goals
   go_wp2_with fail
   refine bodyPost_ret (v:=.tuple #[.agg #[.int .i64 t.1,.int .i64 t.2],.nilIface]) (by simp [results,Tryz.results156,go_sem,hbc]) rfl ⟨rfl,?_⟩
   exact ((HB1.out.setCell (by simp) _).setCell (by simp) _)
 ·have hp:=p4 rfl
  clear p3 p4 p5 p6
  go_enter Tryz.func156,Tryz.ntmps156
  go_wp2_with fail
  go_region_law ((go_simp;refine (hp _).mono ?_;rintro e w1 ⟨rfl,hb⟩;obtain ⟨hbc,hbf⟩:=bcell hb;have hz:=bsize hb;simp at hz;have HB1:Hid (Below w.heap.size w w1):=(onB (by go_grown) hb);clear hb))
  all_goals
   go_wp2_with fail
   refine bodyPost_ret (v:=.tuple #[.agg #[.int .i64 t.1,.int .i64 t.2],.nilIface]) (by simp [results,Tryz.results156,go_sem,hbc]) rfl ⟨rfl,?_⟩
   exact ((HB1.out.setCell (by simp) _).setCell (by simp) _)
 ·have hp:=p5 rfl
  clear p3 p4 p5 p6
  go_enter Tryz.func156,Tryz.ntmps156
  go_wp2_with fail
  go_region_law ((go_simp;refine (hp _).mono ?_;rintro e w1 ⟨rfl,hb⟩;obtain ⟨hbc,hbf⟩:=bcell hb;have hz:=bsize hb;simp at hz;have HB1:Hid (Below w.heap.size w w1):=(onB (by go_grown) hb);clear hb))
  all_goals
   go_wp2_with fail
   refine bodyPost_ret (v:=.tuple #[.agg #[.int .i64 t.1,.int .i64 t.2],.nilIface]) (by simp [results,Tryz.results156,go_sem,hbc]) rfl ⟨rfl,?_⟩
   exact ((HB1.out.setCell (by simp) _).setCell (by simp) _)
 ·have hp:=p6 rfl
  clear p3 p4 p5 p6
  go_enter Tryz.func156,Tryz.ntmps156
  go_wp2_with fail
  go_region_law ((go_simp;refine (hp _).mono ?_;rintro e w1 ⟨rfl,hb⟩;obtain ⟨hbc,hbf⟩:=bcell hb;have hz:=bsize hb;simp at hz;have HB1:Hid (Below w.heap.size w w1):=(onB (by go_grown) hb);clear hb))
  all_goals
   go_wp2_with fail
   refine bodyPost_ret (v:=.tuple #[.agg #[.int .i64 t.1,.int .i64 t.2],.nilIface]) (by simp [results,Tryz.results156,go_sem,hbc]) rfl ⟨rfl,?_⟩
   exact ((HB1.out.setCell (by simp) _).setCell (by simp) _)
def toldL (N:List ByteArray) (C:List (Int×Int)) (l:List Nd) (k:Nat):List (Int×Int):=(List.range k).map fun i=>valT N C (treeOf l i)
section
variable {N:List ByteArray} {C:List (Int×Int)} {l:List Nd} {k i:Nat}
theorem told_len:(toldL N C l k).length=k:=by simp [toldL]
theorem told_at (h:i<k):(toldL N C l k).getD i noC=valT N C (treeOf l i):=by simp [toldL,List.getD,h]
theorem told_next:toldL N C l (k+1)=toldL N C l k ++ [valT N C (treeOf l k)]:=by simp [toldL,List.range_succ]
theorem told_ok (hC:∀ c∈C,okC c):∀ c∈toldL N C l k,okC c:=by
 intro c hc
 simp only [toldL,List.mem_map] at hc
 obtain ⟨i,-,rfl⟩:=hc
 exact val_ok N hC _
theorem one_next (hl:RightL l) (hk:k<l.length) (hm:missR N l k=false):oneC N C (toldL N C l k) (l.getD k noN)=valT N C (treeOf l k)∧oneE N (l.getD k noN)=0:=by
 have ho:=op_range (hl k hk)
 by_cases h1:(l.getD k noN).op=1
 ·obtain ⟨e1,e2⟩:=one_numK (N:=N) (C:=C) (T:=toldL N C l k) h1
  rw [e1,e2,tree_num h1]
  exact ⟨rfl,rfl⟩
 by_cases h2:(l.getD k noN).op=2
 ·obtain ⟨e1,e2⟩:=one_ref (N:=N) (C:=C) (T:=toldL N C l k) h2
  unfold missR at hm
  rw [decide_eq_true h2,Bool.true_and] at hm
  have hw:=of_decide_eq_false hm
  rw [e1,e2,tree_ref h2]
  unfold isC isE
  rw [if_pos (by omega),if_pos (by omega)]
  exact ⟨rfl,rfl⟩
 ·obtain ⟨e1,e2⟩:=one_bin (N:=N) (C:=C) (T:=toldL N C l k) (x:=l.getD k noN) (by omega)
  obtain ⟨a1,a2,a3,a4⟩:=nd_sides (hl k hk) (by omega)
  rw [e1,e2,tree_bin hl hk (by omega),told_at (by omega),told_at (by omega)]
  exact ⟨rfl,rfl⟩
theorem one_miss (hm:missR N l k=true):oneE N (l.getD k noN)=5:=by
 simp only [missR,Bool.and_eq_true,decide_eq_true_eq] at hm
 rw [(one_ref (N:=N) (C:=[]) (T:=[]) hm.1).2]
 unfold isE
 rw [if_neg (by omega)]
end
theorem cel_own {w:World} {base:Nat} {v:Value} {T:List (Int×Int)} (h:w.ownsRow base 54 2 v T.length (cellsC T)):∃ A c,v=.slice A T.length c∧CelV w A c T:=by
 by_cases h0:0<T.length
 ·obtain ⟨g,c,rfl,-,h1,h2,h3⟩:=celB_own h h0
  exact ⟨_,_,rfl,h1,h2,Or.inr ⟨g,0,rfl,h3.celAt⟩⟩
 ·have hT:T=[]:=List.eq_nil_of_length_eq_zero (by omega)
  subst hT
  rcases h.2 with ⟨rfl,_⟩ | ⟨g,cap,cur,rfl,hb,hg,h4,h5,h6,h7⟩
  ·exact ⟨none,0,rfl,CelV.nil _ _ _ (by omega)⟩
  ·exact ⟨_,_,rfl,CelV.nil _ _ _ (by unfold maxLen at h5;omega)⟩
theorem news2 {w:World} {n:Nat} (hn:w.heap.size=n) (c:Int×Int):∀ j u,(cellsC [c])[j]?=some u→(w.alloc (.cells #[.int .i64 c.1,.int .i64 c.2] 54)).cell? ((⟨n,0,none⟩:Addr).add j)=some u:=by
 subst hn
 exact World.news_of_block (cs := #[.int .i64 c.1,.int .i64 c.2]) (t:=54) (fr:=(0,0)) (heap_alloc_new _ _)
theorem AskN.later {fn q r:Nat} {w w':World} {N:List ByteArray} {C:List (Int×Int)} (h:AskN fn q r w N C) (hB:Below w.heap.size w w'):AskN fn q r w' N C:=fun x w'' hb=>h x w'' (onB hB hb)
set_option maxHeartbeats 4000000 in
theorem comes_any (fn q r:Nat) (hent:∀ (args:Array Value) (w:World),(callFunc fn args).run Tryz.prog w=.ok (.enter fn args) w) (N:List ByteArray) (C:List (Int×Int)) (A:Option Addr) (cap:Nat) (l:List Nd) (w:World) (hN:NdsV w A cap l) (hl:formErr l=0) (hC:∀ c∈C,okC c) (hask:AskN fn q r w N C) :
  Calls Tryz.prog 121 #[.slice A l.length cap,.func (.func fn) #[] #[.pointer (some ⟨q,0,none⟩),.pointer (some ⟨r,0,none⟩)]] w fun e w'=>e=.returned (.tuple #[.agg #[.int .i64 (if missT N (treeOf l (l.length-1))=true then noC else valT N C (treeOf l (l.length-1))).1,.int .i64 (if missT N (treeOf l (l.length-1))=true then noC else valT N C (treeOf l (l.length-1))).2],errV (if missT N (treeOf l (l.length-1))=true then 5 else 0)])∧Below w.heap.size w w':=by
 obtain ⟨i0,hi0,hz0,hz1,hz2⟩:=info_parts Tryz.infoCe
 obtain ⟨hp,h30,hg,-⟩:=form_right hl
 obtain ⟨-,-,h1 | ⟨b,o,rfl,hNA⟩⟩:=hN
 ·rw [h1] at hp;simp at hp
 obtain ⟨R,hR⟩:∃ R,(if missT N (treeOf l (l.length-1))=true then noC else valT N C (treeOf l (l.length-1)))=R:=⟨_,rfl⟩
 obtain ⟨E,hE⟩:∃ E:Int,(if missT N (treeOf l (l.length-1))=true then 5 else 0)=E:=⟨_,rfl⟩
 have HMiss:Hid (∀ i,i<l.length→missR N l i=true→R=noC∧E=5):=fun i hi hm=>by
  rw [←hR,←hE,if_pos (miss_yes hl hi hm),if_pos (miss_yes hl hi hm)]
  exact ⟨rfl,rfl⟩
 have HGood:Hid ((∀ i,i<l.length→missR N l i=false)→R=valT N C (treeOf l (l.length-1))∧E=0):=fun hm=>by
  rw [←hR,←hE,miss_no hl hm]
  exact ⟨rfl,rfl⟩
 rw [hR,hE]
 have HN:Hid (NdsAt w b o l):=hNA
 have HL:Hid (RightL l):=hg
 have HC:Hid (∀ c∈C,okC c):=hC
 have HA:Hid (AskN fn q r w N C):=hask
 have HEnt:Hid (∀ (args:Array Value) (w:World),(callFunc fn args).run Tryz.prog w=.ok (.enter fn args) w):=hent
 obtain ⟨n,hn⟩:∃ n,l.length=n:=⟨_,rfl⟩
 have HLn:Hid (l.length=n):=hn
 rw [hn] at h30 hp ⊢
 have hni:(n:Int)≤30:=by omega
 have hn0:0<(n:Int):=by omega
 clear hl hNA hC hask hg hR hE hn hent
 go_enter Tryz.func121,Tryz.ntmps121
 obtain ⟨W0,hW0⟩:∃ W0,w.alloc (.cells #[.int .i64 0,.int .i64 0] 54)=W0:=⟨_,rfl⟩
 have hsW:W0.heap.size=w.heap.size+1:=by rw [←hW0];simp
 have hBW:Below w.heap.size w W0:=by rw [←hW0];exact (Below.refl _ _).alloc (Nat.le_refl _) _
 have HBW:Hid (Below w.heap.size w W0):=hBW
 have hA0:W0.heap[w.heap.size]?=some (.cells #[.int .i64 0,.int .i64 0] 54 (0,0)):=by rw [←hW0];exact heap_alloc_new _ _
 have HA0:Hid (W0.heap[w.heap.size]?=some (.cells #[.int .i64 0,.int .i64 0] 54 (0,0))):=hA0
 have HSW:Hid (W0.heap.size=w.heap.size+1):=hsW
 clear hBW hA0 hsW
 go_wp2_with (at_make;refine wpList_make_own _ rfl _ _ 42 rfl (w.heap.size+1) 54 i0 _ 2 Tryz.underlying42 hi0 hz0 hz1 _ _ _ n rfl rfl rfl ?qb1 ?qb2 ?qb3 ?_)
 case qb1=>rw [hz2];omega
 case qb2=>unfold maxLen;omega
 case qb3=>rw [HSW.out];exact Nat.le_refl _
 intro w1 hown1 hgrow1
 have hB1:Below W0.heap.size W0 w1:=⟨hgrow1.os,hgrow1.tape,hgrow1.output,hgrow1.size,fun k hk=>hgrow1.block k hk (by simp)⟩
 have HB1:Hid (Below W0.heap.size W0 w1):=hB1
 have HO1:=hid_of hown1
 clear hown1 hgrow1 hB1 hW0
 go_wp2_with fail
 go_loopg [6,16] n (fun g s6 s16 wr => ∃ (k:Nat),k≤n∧g=n-k∧s16=.int .i64 k∧wr.ownsRow (w.heap.size+1) 54 2 s6 (toldL N C l k).length (cellsC (toldL N C l k))∧(∀ j,j<k→missR N l j=false)∧Below W0.heap.size W0 wr)
 case atStart=>exact ⟨0,Nat.zero_le _,rfl,rfl,HO1.out,fun j hj=>absurd hj (Nat.not_lt_zero j),HB1.out⟩
 case round =>
  obtain ⟨k,hk,rfl,rfl,hown,hms,hBw⟩:=hrel
  obtain ⟨At,ct,rfl,hCel⟩:=cel_own hown
  have HO:Hid (wr.ownsRow (w.heap.size+1) 54 2 (.slice At (toldL N C l k).length ct) (toldL N C l k).length (cellsC (toldL N C l k))):=hown
  have HMs:Hid (∀ j,j<k→missR N l j=false):=hms
  have HW:Hid (Below W0.heap.size W0 wr):=hBw
  have HCel:Hid (CelV wr At ct (toldL N C l k)):=hCel
  have HBr:Hid (Below w.heap.size w wr):=onB HBW.out hBw
  have hsz:=hBw.size
  clear hown hms hBw hCel
  by_cases hlt:k<n
  ·have hki:(k:Int)<(n:Int):=by omega
   obtain ⟨x0,x1,x2,x3,x4⟩:=(HN.out.later HBr.out).nd (k:=k) (by rw [HLn.out];exact hlt)
   have hbl:b<w.heap.size:=HN.out.1
   have hgk:=HL.out k (by rw [HLn.out];exact hlt)
   have hone:=fun w' (hb:Below wr.heap.size wr w')=>rkone_any fn q r HEnt.out N C (toldL N C l k) At ct (l.getD k noN) w' (by rw [told_len];exact hgk) (by rw [told_len];omega) (HCel.out.later hb) (told_ok HC.out) (HA.out.later (onB HBr.out hb))
   rw [told_len] at hone ⊢
   obtain ⟨x,hx⟩:∃ x,l.getD k noN=x:=⟨_,rfl⟩
   have HX:Hid (l.getD k noN=x):=hx
   rw [hx] at x0 x1 x2 x3 x4 hone
   rw [ndV_def] at hone
   clear hx hgk
   cases hm:missR N l k
   ·obtain ⟨e1,e2⟩:=one_next (C:=C) HL.out (by rw [HLn.out];exact hlt) hm
    rw [HX.out] at e1 e2
    rw [e1,e2,errV_zero] at hone
    obtain ⟨c,hc⟩:∃ c,valT N C (treeOf l k)=c:=⟨_,rfl⟩
    have HCv:Hid (valT N C (treeOf l k)=c):=hc
    have HM:Hid (missR N l k=false):=hm
    rw [hc] at hone
    clear e1 e2 hc hm
    go_wp2_with fail
    refine (hone _ (by go_grown)).mono ?_
    rintro e w2 ⟨rfl,hb2⟩
    have hb3:Below wr.heap.size wr w2:=onB (by go_grown) hb2
    have HB3:Hid (Below W0.heap.size W0 w2):=onB HW.out hb3
    have HO3:Hid (w2.ownsRow (w.heap.size+1) 54 2 (.slice At k ct) k (cellsC (toldL N C l k))):=by have h:=own_later HO.out hb3;rw [told_len] at h;exact h
    have hz2':=hb3.size
    clear hb2 hb3 hone
    go_wp2_with (at_builtin;refine wpList_append_own _ rfl _ _ 42 rfl (w.heap.size+1) 54 i0 _ 2 16 Tryz.underlying42 hi0 hz0 hz1 hz2 rfl (by decide) _ k _ rfl (own_later HO3.out ?qc0) ⟨w2.heap.size+1,0,none⟩ 1 1 (cellsC [c]) rfl rfl ?qc1 (cellsC_one _) ?qc2 ?qc3 ?qc4 ?_)
    case qc0=>go_grown
    case qc1=>exact news2 (by simp) c
    case qc2=>unfold maxLen;omega
    case qc3=>omega
    case qc4=>have:=HSW.out;simp;omega
    intro v4 w4 hown4 hgrow4 _
    have HB4:Hid (Below W0.heap.size W0 w4):=((HB3.out.alloc HB3.out.size _).alloc (by have:=HB3.out.size;simp;omega) _).grown hgrow4 (by have:=HB3.out.size;simp;omega) (fun j hj=>by have h1:=(HO3.out.lt j hj).1;have h2:=HSW.out;omega)
    have HO4:Hid (w4.ownsRow (w.heap.size+1) 54 2 v4 (toldL N C l (k+1)).length (cellsC (toldL N C l (k+1)))):=by
     show World.ownsRow ..
     rw [told_next,cellsC_append,List.length_append,told_len,HCv.out]
     exact hown4
    clear hown4 hgrow4
    go_wp2_with fail
    go_roundg (n-(k+1))
    case measure=>omega
    case rel=>exact ⟨k+1,by omega,rfl,by go_num,HO4.out,fun j hj=>by rcases Nat.lt_succ_iff_lt_or_eq.1 hj with h | h;exact HMs.out j h;rw [h];exact HM.out,HB4.out⟩
   ·have e2:=one_miss (N:=N) (l:=l) (k:=k) hm
    rw [HX.out] at e2
    rw [e2,errV_some (by decide)] at hone
    obtain ⟨hR,hE⟩:=HMiss.out k (by rw [HLn.out];exact hlt) hm
    have HR:Hid (R=noC):=hR
    have HE:Hid (E=5):=hE
    obtain ⟨c,hc⟩:∃ c,oneC N C (toldL N C l k) x=c:=⟨_,rfl⟩
    rw [hc] at hone
    clear e2 hc hm hR hE
    go_wp2_with fail
    refine (hone _ (by go_grown)).mono ?_
    rintro e w2 ⟨rfl,hb2⟩
    have hb3:Below wr.heap.size wr w2:=onB (by go_grown) hb2
    have HB3:Hid (Below W0.heap.size W0 w2):=onB HW.out hb3
    have hz2':=hb3.size
    have hr:=(HB3.out.block w.heap.size (by have:=HSW.out;omega)).trans HA0.out
    have r1:w.heap.size<w2.heap.size:=(Array.getElem?_eq_some_iff.1 hr).1
    have r2:w2.cell? ⟨w.heap.size,0,none⟩=some (.int .i64 0):=by simp [World.cell?,hr]
    have r3:w2.cell? ⟨w.heap.size,1,none⟩=some (.int .i64 0):=by simp [World.cell?,hr]
    have rf0:w2.frozen? ⟨w.heap.size,0,none⟩=false:=by simp [World.frozen?,hr]
    have rf1:w2.frozen? ⟨w.heap.size,1,none⟩=false:=by simp [World.frozen?,hr]
    clear hr
    clear hb2 hb3 hone
    go_wp2_with fail
    refine bodyPost_ret (v:=.tuple #[.agg #[.int .i64 R.1,.int .i64 R.2],errV E]) (by rw [HR.out,HE.out];simp [results,Tryz.results121,go_sem,r2,r3,r1,noC,errV_some]) rfl ⟨rfl,?_⟩
    have hf:=onB HBW.out HB3.out
    first | exact ((hf.setCell (Nat.le_refl _) _).setCell (Nat.le_refl _) _).alloc (by have:=hf.size;simp;omega) _ | exact (((hf.alloc hf.size _).setCell (Nat.le_refl _) _).setCell (Nat.le_refl _) _)
  ·have hke:k=n:=by omega
   subst hke
   obtain ⟨hR,hE⟩:=HGood.out (fun i hi=>HMs.out i (by rw [←HLn.out];exact hi))
   have HE:Hid (E=0):=hE
   have hkk:(toldL N C l k).length=k:=told_len
   obtain ⟨-,-,h0 | ⟨g,og,rfl,hCA⟩⟩:=HCel.out
   ·rw [h0] at hkk;simp at hkk;omega
   obtain ⟨y0,y1⟩:=hCA.2 (k-1) (by rw [told_len];omega)
   have hgl:=hCA.1
   rw [told_at (by omega)] at y0 y1
   rw [HLn.out] at hR
   rw [←hR] at y0 y1
   have hr:=(HW.out.block w.heap.size (by have:=HSW.out;omega)).trans HA0.out
   have r1:w.heap.size<wr.heap.size:=(Array.getElem?_eq_some_iff.1 hr).1
   have r2:wr.cell? ⟨w.heap.size,0,none⟩=some (.int .i64 0):=by simp [World.cell?,hr]
   have r3:wr.cell? ⟨w.heap.size,1,none⟩=some (.int .i64 0):=by simp [World.cell?,hr]
   have rf0:wr.frozen? ⟨w.heap.size,0,none⟩=false:=by simp [World.frozen?,hr]
   have rf1:wr.frozen? ⟨w.heap.size,1,none⟩=false:=by simp [World.frozen?,hr]
   obtain ⟨m,hm⟩:∃ m,k-1=m:=⟨_,rfl⟩
   rw [hm] at y0 y1
   have hsub:(k:Int)-1=(m:Int):=by omega
   have hmk:(m:Int)<(k:Int):=by omega
   rw [hkk]
   clear hr hCA hR hE hkk hm
   go_wp2_with fail
   refine bodyPost_ret (v:=.tuple #[.agg #[.int .i64 R.1,.int .i64 R.2],errV E]) (by rw [HE.out];simp [results,Tryz.results121,go_sem,r2,r3,errV_zero]) rfl ⟨rfl,?_⟩
   exact (HBr.out.setCell (Nat.le_refl _) _).setCell (Nat.le_refl _) _
end Go.Proofs.YtfgegmpoejilnaaGreatDoor
