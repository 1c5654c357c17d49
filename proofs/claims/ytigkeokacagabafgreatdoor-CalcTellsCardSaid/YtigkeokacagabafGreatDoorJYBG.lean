/-
  Where a name is among names that rise: what slices.BinarySearch over strings and the closure of reckon.Value answer, called in whatever memory.
-/
import Derived.Test.YtigkeokacagabafGreatDoorJYBB
namespace Go.Proofs.YtigkeokacagabafGreatDoor
open Go.ChangeShapes Go.WideShapes Go.ChangeAt Go.RowKit
set_option maxRecDepth 20000
theorem first_false (p:Nat→Bool):∀ n,p n=false→∃ k,k≤n∧p k=false∧∀ t,t<k→p t=true:=by
 intro n
 induction n with
 | zero=>intro h;exact ⟨0,Nat.le_refl _,h,fun t ht=>absurd ht (Nat.not_lt_zero _)⟩
 | succ n ih =>
  intro h
  by_cases e:∃ j,j≤n∧p j=false
  ·obtain ⟨j,hj,h1⟩:=e
   clear ih
   have hw:∀ m j,j≤m→p j=false→∃ k,k≤j∧p k=false∧∀ t,t<k→p t=true:=by
    intro m
    induction m with
    | zero=>intro j hj h1;exact ⟨j,Nat.le_refl _,h1,fun t ht=>by omega⟩
    | succ m ih =>
     intro j hj h1
     by_cases e2:∃ i,i<j∧p i=false
     ·obtain ⟨i,hi,h2⟩:=e2
      obtain ⟨k,h3,h4,h5⟩:=ih i (by omega) h2
      exact ⟨k,by omega,h4,h5⟩
     ·refine ⟨j,Nat.le_refl _,h1,fun t ht=>?_⟩
      cases hp:p t
      ·exact absurd ⟨t,ht,hp⟩ e2
      ·rfl
   obtain ⟨k,h2,h3,h4⟩:=hw j j (Nat.le_refl _) h1
   exact ⟨k,by omega,h3,h4⟩
  ·refine ⟨n+1,Nat.le_refl _,h,fun t ht=>?_⟩
   cases hp:p t
   ·exact absurd ⟨t,by omega,hp⟩ e
   ·rfl
theorem not_less (x:ByteArray):Op.bytesLess x.toList x.toList=false:=by
 rw [bytesLess_eq]
 exact decide_eq_false (List.lt_irrefl _)
theorem bs_where {N:List ByteArray} (hr:∀ j,1≤j→j<N.length→downS N j=false) (x:ByteArray) (S:Nat→ByteArray) (hS:S=fun j=>if j<N.length then N.getD j noS else x) :
  (decide (Lib.bsGo (fun t=>Op.bytesLess (S t).toList x.toList) N.length 0 N.length<N.length∧S (Lib.bsGo (fun t=>Op.bytesLess (S t).toList x.toList) N.length 0 N.length)=x)=decide (0≤whereS N x)) ∧
  (0≤whereS N x→(Lib.bsGo (fun t=>Op.bytesLess (S t).toList x.toList) N.length 0 N.length:Int)=whereS N x):=by
 have hup:=rise_all hr
 have s1:∀ j,j<N.length→S j=N.getD j noS:=fun j hj=>by rw [hS];exact if_pos hj
 have s2:∀ j,N.length≤j→S j=x:=fun j hj=>by rw [hS];exact if_neg (by omega)
 obtain ⟨k,hk,h1,h2⟩:=first_false (fun t=>Op.bytesLess (S t).toList x.toList) N.length (by show Op.bytesLess (S N.length).toList x.toList=false;rw [s2 _ (Nat.le_refl _)];exact not_less x)
 have h1':Op.bytesLess (S k).toList x.toList=false:=h1
 have h2':∀ t,t<k→Op.bytesLess (S t).toList x.toList=true:=h2
 have h3:∀ t,k≤t→Op.bytesLess (S t).toList x.toList=false:=by
  intro t ht
  by_cases e:N.length≤t
  ·rw [s2 t e];exact not_less x
  ·by_cases e2:t=k
   ·rw [e2];exact h1'
   ·rw [s1 t (by omega),bytesLess_eq]
    rw [s1 k (by omega),bytesLess_eq] at h1'
    refine decide_eq_false fun h=>of_decide_eq_false h1' (List.lt_trans (hup k t (by omega) (by omega)) h)
 have hbs:Lib.bsGo (fun t=>Op.bytesLess (S t).toList x.toList) N.length 0 N.length=k:=Lib.bsGo_spec _ k h2 h3 _ _ _ (by omega) (Nat.zero_le _) hk
 rw [hbs]
 rcases where_cases N x with ⟨hw,hn⟩ | ⟨i,hw,hi,he⟩
 ·refine ⟨?_,fun h=>by omega⟩
  rw [hw,decide_eq_false (show ¬ (0:Int)≤-1 by omega)]
  refine decide_eq_false fun h=>?_
  rw [s1 k h.1] at h
  exact hn k h.1 h.2
 ·have hki:k=i:=by
   have hle:k≤i:=by
    apply Nat.le_of_not_lt
    intro h
    have:=h2' i h
    rw [s1 i hi,he,not_less] at this
    cases this
   by_cases e:k=i
   ·exact e
   ·have hlt:=hup k i (by omega) hi
    rw [s1 k (by omega),bytesLess_eq] at h1'
    rw [he] at hlt
    exact absurd hlt (of_decide_eq_false h1')
  subst hki
  refine ⟨?_,fun _=>hw.symm⟩
  rw [hw,decide_eq_true (show (0:Int)≤(k:Int) by omega)]
  exact decide_eq_true ⟨hi,by rw [s1 k hi];exact he⟩
theorem bsearch_any (An:Option Addr) (cn:Nat) (N:List ByteArray) (x:ByteArray) (w:World) (hN:NmV w An cn N) (hr:∀ j,1≤j→j<N.length→downS N j=false) :
  Calls Tryz.prog 174 #[.slice An N.length cn,.string x] w fun e w'=>(∃ i:Nat,e=.returned (.tuple #[.int .i64 i,.bool (decide (0≤whereS N x))])∧(0≤whereS N x→(i:Int)=whereS N x))∧Below w.heap.size w w':=by
 obtain ⟨h1,h2,h3,h4 | ⟨b,o,rfl,h5,h6⟩⟩:=hN
 ·subst h4
  refine (Any2.slices_BinarySearch_string_empty Tryz.lays26 An cn x w).mono ?_
  rintro e w' ⟨rfl,rfl⟩
  exact ⟨⟨0,rfl,fun h=>absurd h (by show ¬ (0:Int)≤whereS [] x;unfold whereS;show ¬ (0:Int)≤-1;omega)⟩,Below.refl _ _⟩
 ·obtain ⟨e1,e2⟩:=bs_where hr x (fun j=>if j<N.length then N.getD j noS else x) rfl
  refine (Any2.slices_BinarySearch_string Tryz.lays26 b o N.length cn (fun j=>if j<N.length then N.getD j noS else x) x w h2 (fun j hj=>by simp only [if_pos hj];exact h6 j hj)).mono ?_
  rintro e w' ⟨rfl,q,rfl⟩
  exact ⟨⟨_,by rw [e1],e2⟩,below_drewN (Below.refl _ _) _⟩
def isC (N:List ByteArray) (C:List (Int×Int)) (x:ByteArray):Int×Int:=if 0≤whereS N x then C.getD (whereS N x).toNat noC else noC
def isE (N:List ByteArray) (x:ByteArray):Int:=if 0≤whereS N x then 0 else 5
set_option maxHeartbeats 1000000 in
theorem value1_any (q r:Nat) (An:Option Addr) (cn:Nat) (N:List ByteArray) (Ac:Option Addr) (cc:Nat) (C:List (Int×Int)) (x:ByteArray) (w:World) (hq:w.cell? ⟨q,0,none⟩=some (.slice An N.length cn)) (hrr:w.cell? ⟨r,0,none⟩=some (.slice Ac C.length cc)) (hN:NmV w An cn N) (hC:CelV w Ac cc C) (hck:ckErr N C=0) :
  Calls Tryz.prog 173 #[.string x,.pointer (some ⟨q,0,none⟩),.pointer (some ⟨r,0,none⟩)] w fun e w'=>e=.returned (.tuple #[.agg #[.int .i64 (isC N C x).1,.int .i64 (isC N C x).2],errV (isE N x)])∧Below w.heap.size w w':=by
 obtain ⟨hlen,-,hr⟩:=ck_right hck
 have hbs:=fun w' (hb:Below w.heap.size w w')=>bsearch_any An cn N x w' (hN.later hb) hr
 have hrl:=World.block_lt_of_cell? _ _ hrr
 have hql:=World.block_lt_of_cell? _ _ hq
 simp only at hrl hql
 by_cases h0:0≤whereS N x
 ·rw [decide_eq_true h0] at hbs
  obtain ⟨i,hi,hil,-⟩:∃ i:Nat,whereS N x=(i:Int)∧i<N.length∧N.getD i noS=x:=by
   rcases where_cases N x with ⟨hw,-⟩ | h
   ·omega
   ·exact h
  obtain ⟨-,-,hC3⟩:=hC
  obtain ⟨b,o,rfl,hCA⟩:=hC3.resolve_left (fun e=>by rw [e] at hlen;simp at hlen;omega)
  obtain ⟨c,hc⟩:∃ c,C.getD i noC=c:=⟨_,rfl⟩
  have hic:isC N C x=c:=by unfold isC;rw [if_pos h0,hi];exact hc
  have hie:isE N x=0:=by unfold isE;rw [if_pos h0]
  have HC:Hid (CelAt w b o C):=hCA
  have HI:Hid (∀ j:Nat,(0≤whereS N x→(j:Int)=whereS N x)→j=i):=fun j hj=>by have:=hj h0;omega
  have HCc:Hid (C.getD i noC=c):=hc
  have hil':(i:Int)<(C.length:Int):=by omega
  rw [hic,hie,errV_zero]
  obtain ⟨m,hm⟩:∃ m,C.length=m:=⟨_,rfl⟩
  have HM:Hid (C.length=m):=hm
  rw [hm] at hrr hil'
  clear hck hN hr hi hic hie hC3 hCA h0 hc hm hil hlen
  go_enter Tryz.func173,Tryz.ntmps173
  go_wp2_with fail
  refine (hbs _ (by go_grown)).mono ?_
  rintro e w1 ⟨⟨j,rfl,hj⟩,hb⟩
  have hji:=HI.out j hj
  subst hji
  obtain ⟨hbc,hbf⟩:=bcell hb
  have hz:=bsize hb
  simp at hz
  have hb1:Below w.heap.size w w1:=onB (by go_grown) hb
  clear hb
  obtain ⟨c0,c1⟩:=HC.out.2 j (by rw [HM.out];omega)
  rw [HCc.out] at c0 c1
  have HB1:Hid (Below w.heap.size w w1):=hb1
  have hbl:b<w.heap.size:=HC.out.1
  clear hb1 hbs hq hj
  go_wp2_with fail
  refine bodyPost_ret (v:=.tuple #[.agg #[.int .i64 c.1,.int .i64 c.2],.nilIface]) (by simp [results,Tryz.results173,go_sem,hbc]) rfl ⟨rfl,?_⟩
  exact ((HB1.out.setCell (Nat.le_refl _) _).setCell (Nat.le_refl _) _)
 ·rw [decide_eq_false h0] at hbs
  have hic:isC N C x=noC:=by unfold isC;rw [if_neg h0]
  have hie:isE N x=5:=by unfold isE;rw [if_neg h0]
  rw [hic,hie,errV_some (by decide)]
  unfold noC
  clear hck hN hr hic hie hC hlen
  go_enter Tryz.func173,Tryz.ntmps173
  go_wp2_with fail
  refine (hbs _ (by go_grown)).mono ?_
  rintro e w1 ⟨⟨j,rfl,hj⟩,hb⟩
  obtain ⟨hbc,hbf⟩:=bcell hb
  have hz:=bsize hb
  simp at hz
  have hb1:Below w.heap.size w w1:=onB (by go_grown) hb
  have HB1:Hid (Below w.heap.size w w1):=hb1
  clear hb hb1 hbs hq hj h0
  go_wp2_with fail
  refine bodyPost_ret (v:=.tuple #[.agg #[.int .i64 0,.int .i64 0],.iface 77 (.int .i64 5)]) (by simp [results,Tryz.results173,go_sem,hbc]) rfl ⟨rfl,?_⟩
  first | exact HB1.out | exact ((HB1.out.setCell (Nat.le_refl _) _).setCell (Nat.le_refl _) _)
def AskN (fn q r:Nat) (w:World) (N:List ByteArray) (C:List (Int×Int)):Prop := ∀ (x:ByteArray) (w':World),Below w.heap.size w w'→Calls Tryz.prog fn #[.string x,.pointer (some ⟨q,0,none⟩),.pointer (some ⟨r,0,none⟩)] w' fun e w''=>e=.returned (.tuple #[.agg #[.int .i64 (isC N C x).1,.int .i64 (isC N C x).2],errV (isE N x)])∧Below w'.heap.size w' w''
def oneC (N:List ByteArray) (C T:List (Int×Int)) (x:Nd):Int×Int:=if x.op=1 then ofP x.n else if x.op=2 then isC N C x.name else opP x.op (T.getD x.left.toNat noC) (T.getD x.right.toNat noC)
def oneE (N:List ByteArray) (x:Nd):Int:=if x.op=2 then isE N x.name else 0
theorem one_numK {N:List ByteArray} {C T:List (Int×Int)} {x:Nd} (h:x.op=1):oneC N C T x=ofP x.n∧oneE N x=0:=by unfold oneC oneE;rw [if_pos h,if_neg (by omega)];exact ⟨rfl,rfl⟩
theorem one_ref {N:List ByteArray} {C T:List (Int×Int)} {x:Nd} (h:x.op=2):oneC N C T x=isC N C x.name∧oneE N x=isE N x.name:=by unfold oneC oneE;rw [if_neg (by omega),if_pos h,if_pos h];exact ⟨rfl,rfl⟩
theorem one_bin {N:List ByteArray} {C T:List (Int×Int)} {x:Nd} (h:2<x.op):oneC N C T x=opP x.op (T.getD x.left.toNat noC) (T.getD x.right.toNat noC)∧oneE N x=0:=by unfold oneC oneE;rw [if_neg (by omega),if_neg (by omega),if_neg (by omega)];exact ⟨rfl,rfl⟩
theorem op_yes {o:Int} {a b:Int×Int} (ha:okC a) (hb:okC b):(o=3→OpTo 176 a.1 a.2 b.1 b.2 (opP o a b).1 (opP o a b).2 .nilIface)∧(o=4→OpTo 175 a.1 a.2 b.1 b.2 (opP o a b).1 (opP o a b).2 .nilIface)∧(o=5→OpTo 231 a.1 a.2 b.1 b.2 (opP o a b).1 (opP o a b).2 .nilIface)∧(o=6→OpTo 232 a.1 a.2 b.1 b.2 (opP o a b).1 (opP o a b).2 .nilIface):=by
 refine ⟨?_,?_,?_,?_⟩ <;> rintro rfl
 ·exact add_yes _ _ _ _ ha hb
 ·exact sub_yes _ _ _ _ ha hb
 ·exact mul_yes _ _ _ _ ha hb
 ·exact div_yes _ _ _ _ ha hb
theorem cel_ok {T:List (Int×Int)} (hT:∀ c∈T,okC c) (i:Nat):okC (T.getD i noC):=by
 rw [List.getD_eq_getElem?_getD]
 cases h:T[i]? with
 | none=>exact okC_no
 | some c=>exact hT c (List.mem_of_getElem? h)
set_option maxHeartbeats 4000000 in
theorem rkone_any (fn q r:Nat) (hent:∀ (args:Array Value) (w:World),(callFunc fn args).run Tryz.prog w=.ok (.enter fn args) w) (N:List ByteArray) (C T:List (Int×Int)) (At:Option Addr) (ct:Nat) (x:Nd) (w:World) (hx:ndErr x T.length=0) (hn:T.length≤30) (hT:CelV w At ct T) (hok:∀ c∈T,okC c) (hask:AskN fn q r w N C) :
  Calls Tryz.prog 206 #[ndV x,.slice At T.length ct,.func (.func fn) #[] #[.pointer (some ⟨q,0,none⟩),.pointer (some ⟨r,0,none⟩)]] w fun e w'=>e=.returned (.tuple #[.agg #[.int .i64 (oneC N C T x).1,.int .i64 (oneC N C T x).2],errV (oneE N x)])∧Below w.heap.size w w':=by
 rw [ndV_def]
 have ho:1≤x.op∧x.op≤6:=by
  unfold ndErr at hx
  split at hx
  ·cases hx
  ·omega
 by_cases h1:x.op=1
 ·obtain ⟨e1,e2⟩:=one_numK (N:=N) (C:=C) (T:=T) h1
  rw [e1,e2,errV_zero,h1]
  have hof:=of_any x.n
  clear hx hT hask e1 e2 h1
  go_enter Tryz.func206,Tryz.ntmps206
  go_wp2_with fail
  refine (hof _).mono ?_
  rintro e w1 ⟨rfl,hb⟩
  obtain ⟨hbc,hbf⟩:=bcell hb
  have hz:=bsize hb
  simp at hz
  have hb1:Below w.heap.size w w1:=onB (by go_grown) hb
  have HB1:Hid (Below w.heap.size w w1):=hb1
  clear hb hb1 hof
  go_wp2_with fail
  refine bodyPost_ret (v:=.tuple #[.agg #[.int .i64 (ofP x.n).1,.int .i64 (ofP x.n).2],.nilIface]) (by simp [results,Tryz.results206,go_sem,hbc]) rfl ⟨rfl,?_⟩
  exact ((HB1.out.setCell (by simp) _).setCell (by simp) _)
 by_cases h2:x.op=2
 ·obtain ⟨e1,e2⟩:=one_ref (N:=N) (C:=C) (T:=T) h2
  rw [e1,e2,h2]
  have has:=hask x.name
  obtain ⟨c,hc⟩:∃ c,isC N C x.name=c:=⟨_,rfl⟩
  obtain ⟨er,her⟩:∃ er,errV (isE N x.name)=er:=⟨_,rfl⟩
  rw [hc,her] at has
  rw [hc,her]
  clear hx hT hask e1 e2 h2 hc her
  go_enter Tryz.func206,Tryz.ntmps206
  go_wp2_with fail
  refine (has _ (by go_grown)).mono ?_
  rintro e w1 ⟨rfl,hb⟩
  obtain ⟨hbc,hbf⟩:=bcell hb
  have hz:=bsize hb
  simp at hz
  have hb1:Below w.heap.size w w1:=onB (by go_grown) hb
  have HB1:Hid (Below w.heap.size w w1):=hb1
  clear hb hb1 has
  go_wp2_with fail
  refine bodyPost_ret (v:=.tuple #[.agg #[.int .i64 c.1,.int .i64 c.2],er]) (by simp [results,Tryz.results206,go_sem,hbc]) rfl ⟨rfl,?_⟩
  exact ((HB1.out.setCell (by simp) _).setCell (by simp) _)
 obtain ⟨e1,e2⟩:=one_bin (N:=N) (C:=C) (T:=T) (x:=x) (by omega)
 obtain ⟨a1,a2,a3,a4⟩:=nd_sides hx (by omega)
 obtain ⟨a,ha⟩:∃ a:Nat,x.left=a:=⟨x.left.toNat,by omega⟩
 obtain ⟨c,hc⟩:∃ c:Nat,x.right=c:=⟨x.right.toNat,by omega⟩
 rw [e1,e2,errV_zero,ha,hc,Int.toNat_natCast,Int.toNat_natCast]
 obtain ⟨-,-,hT3⟩:=hT
 obtain ⟨b,o,rfl,hTA⟩:=hT3.resolve_left (fun e=>by rw [e] at a2;simp at a2;omega)
 obtain ⟨p3,p4,p5,p6⟩:=op_yes (o:=x.op) (cel_ok hok a) (cel_ok hok c)
 obtain ⟨y0,y1⟩:=hTA.2 a (by omega)
 obtain ⟨z0,z1⟩:=hTA.2 c (by omega)
 have hbl:=hTA.1
 obtain ⟨u,hu⟩:∃ u,T.getD a noC=u:=⟨_,rfl⟩
 obtain ⟨v,hv⟩:∃ v,T.getD c noC=v:=⟨_,rfl⟩
 rw [hu] at y0 y1 p3 p4 p5 p6 ⊢
 rw [hv] at z0 z1 p3 p4 p5 p6 ⊢
 obtain ⟨ov,hov⟩:∃ ov,x.op=ov:=⟨_,rfl⟩
 rw [hov] at p3 p4 p5 p6 ho h1 h2 ⊢
 obtain ⟨t,ht⟩:∃ t,opP ov u v=t:=⟨_,rfl⟩
 rw [ht] at p3 p4 p5 p6 ⊢
 unfold OpTo at p3 p4 p5 p6
 obtain ⟨m,hm⟩:∃ m,T.length=m:=⟨_,rfl⟩
 rw [hm] at hn a2 a4 ⊢
 have hai:(a:Int)<(m:Int):=by omega
 have hci:(c:Int)<(m:Int):=by omega
 have hmi:(m:Int)≤30:=by omega
 have hovc:ov=3∨ov=4∨ov=5∨ov=6:=by omega
 clear hx hask e1 e2 h1 h2 hu hv ht hTA hT3 hok ho hov a1 a3
 rcases hovc with rfl | rfl | rfl | rfl
 ·have hp:=p3 rfl
  clear p3 p4 p5 p6
  go_enter Tryz.func206,Tryz.ntmps206
  go_wp2_with fail
  go_region_law ((go_simp;refine (hp _).mono ?_;rintro e w1 ⟨rfl,hb⟩;obtain ⟨hbc,hbf⟩:=bcell hb;have hz:=bsize hb;simp at hz;have HB1:Hid (Below w.heap.size w w1):=(onB (by go_grown) hb);clear hb))
  all_goals
   go_wp2_with fail
   refine bodyPost_ret (v:=.tuple #[.agg #[.int .i64 t.1,.int .i64 t.2],.nilIface]) (by simp [results,Tryz.results206,go_sem,hbc]) rfl ⟨rfl,?_⟩
   exact ((HB1.out.setCell (by simp) _).setCell (by simp) _)
 ·have hp:=p4 rfl
  clear p3 p4 p5 p6
  go_enter Tryz.func206,Tryz.ntmps206
  go_wp2_with fail
  go_region_law ((go_simp;refine (hp _).mono ?_;rintro e w1 ⟨rfl,hb⟩;obtain ⟨hbc,hbf⟩:=bcell hb;have hz:=bsize hb;simp at hz;have HB1:Hid (Below w.heap.size w w1):=(onB (by go_grown) hb);clear hb))
  all_goals
   go_wp2_with fail
   refine bodyPost_ret (v:=.tuple #[.agg #[.int .i64 t.1,.int .i64 t.2],.nilIface]) (by simp [results,Tryz.results206,go_sem,hbc]) rfl ⟨rfl,?_⟩
   exact ((HB1.out.setCell (by simp) _).setCell (by simp) _)
 ·have hp:=p5 rfl
  clear p3 p4 p5 p6
  go_enter Tryz.func206,Tryz.ntmps206
  go_wp2_with fail
  go_region_law ((go_simp;refine (hp _).mono ?_;rintro e w1 ⟨rfl,hb⟩;obtain ⟨hbc,hbf⟩:=bcell hb;have hz:=bsize hb;simp at hz;have HB1:Hid (Below w.heap.size w w1):=(onB (by go_grown) hb);clear hb))
  all_goals
   go_wp2_with fail
   refine bodyPost_ret (v:=.tuple #[.agg #[.int .i64 t.1,.int .i64 t.2],.nilIface]) (by simp [results,Tryz.results206,go_sem,hbc]) rfl ⟨rfl,?_⟩
   exact ((HB1.out.setCell (by simp) _).setCell (by simp) _)
 ·have hp:=p6 rfl
  clear p3 p4 p5 p6
  go_enter Tryz.func206,Tryz.ntmps206
  go_wp2_with fail
  go_region_law ((go_simp;refine (hp _).mono ?_;rintro e w1 ⟨rfl,hb⟩;obtain ⟨hbc,hbf⟩:=bcell hb;have hz:=bsize hb;simp at hz;have HB1:Hid (Below w.heap.size w w1):=(onB (by go_grown) hb);clear hb))
  all_goals
   go_wp2_with fail
   refine bodyPost_ret (v:=.tuple #[.agg #[.int .i64 t.1,.int .i64 t.2],.nilIface]) (by simp [results,Tryz.results206,go_sem,hbc]) rfl ⟨rfl,?_⟩
   exact ((HB1.out.setCell (by simp) _).setCell (by simp) _)
def BolB (w:World) (g n:Nat) (f:Nat→Bool):Prop:=w.heap[g]?=some (.cells ((List.range n).map fun j=>Value.bool (f j)).toArray 4 (0,0))
theorem BolB.lt {w:World} {g n:Nat} {f:Nat→Bool} (h:BolB w g n f):g<w.heap.size:=(Array.getElem?_eq_some_iff.1 h).1
theorem BolB.cell {w:World} {g n:Nat} {f:Nat→Bool} (h:BolB w g n f) {j:Nat} (hj:j<n):w.cell? ⟨g,j,none⟩=some (.bool (f j)):=by
 rw [Lib.cell_of_heap h]
 simp [hj]
theorem BolB.frozen {w:World} {g n:Nat} {f:Nat→Bool} (h:BolB w g n f) (j:Nat):w.frozen? ⟨g,j,none⟩=false:=Lib.frozen_of_heap h j
theorem BolB.later {w w':World} {g n:Nat} {f:Nat→Bool} (h:BolB w g n f) (hB:Below w.heap.size w w'):BolB w' g n f:=(hB.block g h.lt).trans h
theorem BolB.set {w:World} {g n:Nat} {f f':Nat→Bool} (h:BolB w g n f) {m:Nat} (hf:∀ j,j<n→f' j=if j=m then true else f j):BolB (w.setCell ⟨g,m,none⟩ (.bool true)) g n f':=by
 unfold BolB at *
 simp only [World.setCell,Array.getElem?_modify,if_true,h,Option.map_some,Option.some.injEq,Obj.cells.injEq,and_true,Option.isSome_none,Bool.false_eq_true,if_false]
 apply Array.ext_getElem?
 intro j
 rw [Array.getElem?_setIfInBounds]
 by_cases hj:j<n
 ·by_cases e:m=j
  ·rw [if_pos e,if_pos (by simp;omega)]
   simp [hj,hf j hj,e]
  ·have e':j≠m:=fun x=>e x.symm
   rw [if_neg e]
   simp only [List.getElem?_toArray,List.getElem?_map,List.getElem?_range hj,Option.map_some,hf j hj,if_neg e']
 ·by_cases e:m=j
  ·rw [if_pos e,if_neg (by simp;omega),Array.getElem?_eq_none (by simp;omega)]
  ·rw [if_neg e,Array.getElem?_eq_none (by simp;omega),Array.getElem?_eq_none (by simp;omega)]
theorem BolB.made (w:World) (n:Nat):BolB (w.alloc (.cells (madeCells #[.bool false] n) 4)) w.heap.size n fun _=>false:=by
 unfold BolB
 have e:madeCells #[.bool false] n=((List.range n).map fun _=>Value.bool false).toArray:=by
  apply Array.ext
  ·simp [madeCells]
  ·intro i h1 h2
   simp [madeCells,Nat.mod_one]
 rw [e]
 exact heap_alloc_new w _
theorem below_set {B:Nat} {w0 w:World} {g j:Nat} {v:Value} (h:Below B w0 w) (hg:B≤g):Below B w0 (w.setCell ⟨g,j,none⟩ v):=by
 refine ⟨h.os,h.tape,h.output,by simpa [World.setCell] using h.size,fun k hk=>?_⟩
 rw [←h.block k hk]
 simp only [World.setCell,Array.getElem?_modify]
 rw [if_neg (by omega)]
theorem Tryz.infoBol:(Tryz.prog.info? 4).map (fun i=>(i.zero,i.size,i.bytes))=some (some (.bool false),1,1):=by kernel_rfl
theorem own_set {w:World} {base e size n g j:Nat} {v x:Value} {xs:List Value} (h:w.ownsRow base e size v n xs) (hg:g<base):(w.setCell ⟨g,j,none⟩ x).ownsRow base e size v n xs:=by
 refine ⟨h.1,?_⟩
 rcases h.2 with h0 | ⟨g',cap,cur,h1,hb,hg',h2⟩
 ·exact Or.inl h0
 ·refine Or.inr ⟨g',cap,cur,h1,hb,?_,h2⟩
  simp only [World.setCell,Array.getElem?_modify]
  rw [if_neg (by omega)]
  exact hg'
def inF (L:List Int) (j:Nat):Bool:=L.contains (j:Int)
theorem inF_next {L:List Int} {m:Nat} (j:Nat):inF (L ++ [(m:Int)]) j=if j=m then true else inF L j:=by
 unfold inF
 by_cases e:j=m
 ·subst e
  rw [if_pos rfl,List.contains_iff_mem]
  simp
 ·rw [if_neg e,Bool.eq_iff_iff,List.contains_iff_mem,List.contains_iff_mem,List.mem_append,List.mem_singleton]
  exact ⟨fun h=>h.resolve_right (by omega),Or.inl⟩
def okUpTo (L R:List Int) (j u:Nat):Bool := !(L.contains (j:Int)) && (R.take u).all fun x=>L.contains x
theorem okUpTo_next {L R:List Int} {j u:Nat} (h:okUpTo L R j u=true) (hu:u<R.length):okUpTo L R j (u+1)=L.contains (R.getD u 0):=by
 unfold okUpTo at *
 rw [Bool.and_eq_true] at h
 rw [h.1,Bool.true_and,List.take_succ_eq_append_getElem hu,List.all_append,h.2,Bool.true_and,List.getD_eq_getElem?_getD,List.getElem?_eq_getElem hu]
 simp
theorem okUpTo_end {N:List (List Int)} {L R:List Int} {j u:Nat} (hR:N.getD j []=R) (hu:u=R.length∨okUpTo L R j u=false):okUpTo L R j u=okN N L j:=by
 unfold okN
 rw [hR]
 rcases hu with hu | hu
 ·unfold okUpTo
  rw [List.take_of_length_le (by omega)]
 ·rw [hu]
  symm
  unfold okUpTo at hu
  rw [Bool.and_eq_false_iff] at hu ⊢
  rcases hu with hu | hu
  ·exact Or.inl hu
  ·right
   rw [List.all_eq_false] at hu ⊢
   obtain ⟨x,hx,h⟩:=hu
   exact ⟨x,List.mem_of_mem_take hx,h⟩
set_option maxHeartbeats 8000000 in
theorem behind_big (A:Option Addr) (cap:Nat) (xs:List RL) (w:World) (hn:xs.length≤3000) (hN:Inn (lR xs)) (hl:∀ x∈xs,x.p.length≤12) (hc:∀ i:Nat,i<(lR xs).length→cycB (lR xs) i=false) (hR:RowsV w A cap xs) :
  Calls Tryz.prog 29 #[.slice A xs.length cap] w fun e w'=>(∃ A' c',e=.returned (.slice A' (ordTo (lR xs) xs.length).length c')∧IntsAt w' A' c' (ordTo (lR xs) xs.length))∧Below w.heap.size w w':=by
 obtain ⟨i0,hi0,hz0,hz1,hz2⟩:=info_parts Tryz.infoInt
 have HR:Hid (RowsV w A cap xs):=hR
 have HLen:Hid ((lR xs).length=xs.length):=lR_len xs
 obtain ⟨n,hnn⟩:∃ n,xs.length=n:=⟨_,rfl⟩
 have HX:Hid (xs.length=n):=hnn
 have HSn:Hid (∀ k,k<n→∃ m:Nat,m<n∧okN (lR xs) (ordTo (lR xs) k) m=true∧(∀ j,j<m→okN (lR xs) (ordTo (lR xs) k) j=false)∧ordTo (lR xs) (k+1)=ordTo (lR xs) k ++ [(m:Int)]):=fun k hk=>by
  obtain ⟨m,-,h2,h3,h4,h5⟩:=ord_snoc hN hc (k:=k) (by rw [lR_len];omega)
  exact ⟨m,by rw [lR_len] at h2;omega,h3,h4,h5⟩
 have HOl:Hid (∀ k,k≤n→(ordTo (lR xs) k).length=k):=fun k hk=>ord_len hN hc k (by rw [lR_len];omega)
 have HLe:Hid (∀ j,j<n→(xs.getD j noR).p.length≤12∧∀ x∈(xs.getD j noR).p,0≤x∧x<(n:Int)):=fun j hj=>by
  refine ⟨hl _ (rl_mem (by rw [hnn];exact hj)),fun x hx=>?_⟩
  have h:=hN j (by rw [lR_len,hnn];exact hj) x (by rw [lR_at];exact hx)
  rw [lR_len,hnn] at h
  exact h
 rw [hnn] at hn ⊢
 have hnI:(n:Int)≤3000:=by omega
 have hmk:=run_make_row' (P:=Tryz.prog) 34 4 (.bool false) 1 Tryz.underlying34 Tryz.infoBol rfl .i64 .i64 n (by omega) (by omega)
 obtain ⟨W,hW⟩:∃ W,w.alloc (.cells (madeCells #[.bool false] n) 4)=W:=⟨_,rfl⟩
 have HB0:Hid (Below w.heap.size w W):=by rw [←hW];exact (Below.refl _ _).alloc (Nat.le_refl _) _
 have HG0:Hid (BolB W w.heap.size n (inF (ordTo (lR xs) 0))):=by rw [←hW];exact BolB.made w n
 clear hN hl hc hR hnn
 go_enter Tryz.func29,Tryz.ntmps29
 go_wp2_with fail
 clear hW hmk
 go_loopg [4] n (fun g s4 wr => ∃ (k:Nat) (AO:Option Addr) (cO:Nat),k≤n∧g=n-k∧s4=.slice AO k cO∧wr.ownsRow (w.heap.size+1) 3 1 (.slice AO k cO) k (mapI (ordTo (lR xs) k))∧BolB wr w.heap.size n (inF (ordTo (lR xs) k))∧Below w.heap.size w wr)
 case atStart=>exact ⟨0,none,0,Nat.zero_le _,rfl,rfl,World.ownsRow_nil _ _ _ _,HG0.out,HB0.out⟩
 case round =>
  obtain ⟨k,AO,cO,hk,rfl,rfl,hO,hG,hBw⟩:=hrel
  have HO:Hid (wr.ownsRow (w.heap.size+1) 3 1 (.slice AO k cO) k (mapI (ordTo (lR xs) k))):=hO
  have HG:Hid (BolB wr w.heap.size n (inF (ordTo (lR xs) k))):=hG
  have HBw:Hid (Below w.heap.size w wr):=hBw
  by_cases hlt:k<n
  ·have hki:(k:Int)<(n:Int):=by omega
   obtain ⟨m,hmn,hok,hno,hsn⟩:=HSn.out k hlt
   have HNo:Hid (∀ j,j<m→okN (lR xs) (ordTo (lR xs) k) j=false):=hno
   have HOk:Hid (okN (lR xs) (ordTo (lR xs) k) m=true):=hok
   have HSk:Hid (ordTo (lR xs) (k+1)=ordTo (lR xs) k ++ [(m:Int)]):=hsn
   obtain ⟨L,hL⟩:∃ L,ordTo (lR xs) k=L:=⟨_,rfl⟩
   rw [hL] at HNo HOk HSk HG HO
   clear hO hG hBw hok hno hsn hL
   go_wp2_with fail
   go_loopg [4,5] n (fun gg s4 s5 wi => ∃ (j:Nat),j≤m∧gg=n-j∧s4=.slice AO k cO∧s5=.int .i64 j∧wi=wr)
   case atStart=>exact ⟨0,Nat.zero_le _,rfl,rfl,rfl,rfl⟩
   case round =>
    obtain ⟨j,hj,rfl,rfl,rfl,hwi⟩:=hrel
    subst hwi
    have hjn:j<n:=by omega
    have hji:(j:Int)<(n:Int):=by omega
    obtain ⟨hcap,h0 | ⟨b,rfl,hbw,hcl⟩,hrw⟩:=HR.out.later HBw.out
    ·have:=HX.out;rw [h0] at this;simp at this;omega
    have cj:=hcl j (by rw [HX.out];exact hjn)
    have hrj:=hrw _ (rl_mem (k:=j) (by rw [HX.out];exact hjn))
    obtain ⟨hlj,hij⟩:=HLe.out j hjn
    rw [HX.out] at hcap
    have hcapI:(n:Int)≤(cap:Int):=by omega
    have HNj:Hid ((lR xs).getD j []=(xs.getD j noR).p):=lR_at xs j
    obtain ⟨R,hRe⟩:∃ R,(xs.getD j noR).p=R:=⟨_,rfl⟩
    rw [hRe] at cj hrj hlj hij HNj
    have HIj:Hid (∀ x∈R,0≤x∧x<(n:Int)):=hij
    generalize (xs.getD j noR).A=Aj at cj hrj
    generalize (xs.getD j noR).c=cjj at cj hrj
    have HTj:Hid (IntT wr Aj cjj R):=hrj
    obtain ⟨r,hr⟩:∃ r,R.length=r:=⟨_,rfl⟩
    have HRr:Hid (R.length=r):=hr
    rw [hr] at cj hlj
    have hrI:(r:Int)≤12:=by omega
    have cg:=HG.out.cell hjn
    have hgl:=HG.out.lt
    have HOk0:Hid (okUpTo L R j 0 = !inF L j):=by show _=_;unfold okUpTo inF;simp
    generalize inF L j=ij at cg HOk0
    clear hcl hrw hrj hRe hij hr
    go_wp2_with fail
    go_loopg [6,7] r (fun gg s6 s7 wi => ∃ (u:Nat) (ok:Bool),u≤r∧gg=r-u∧s6=.bool ok∧s7=.int .i64 u∧Hid (okUpTo L R j u=ok)∧wi=wr)
    case atStart=>exact ⟨0,_,Nat.zero_le _,rfl,rfl,rfl,HOk0,rfl⟩
    case round =>
     obtain ⟨u,ok,hu,rfl,rfl,rfl,HU,hwi⟩:=hrel
     subst hwi
     by_cases hul:u<r
     ·have hui:(u:Int)<(r:Int):=by omega
      cases ok
      ·have hjm:j<m:=by
        have h1:okN (lR xs) L j=false:=by rw [←okUpTo_end HNj.out (Or.inr HU.out)];exact HU.out
        rcases Nat.lt_or_ge j m with h | h
        ·exact h
        ·have e:j=m:=by omega
         have h2:=HOk.out
         rw [←e,h1] at h2
         cases h2
       go_wp2_with fail
       go_roundg (n-(j+1))
       case measure=>omega
       case rel=>exact ⟨j+1,by omega,rfl,rfl,by go_num,rfl⟩
      ·obtain ⟨hcR,-,hR0 | ⟨br,cs,fr,rfl,hbr,hcr⟩⟩:=HTj.out
       ·have:=HRr.out;rw [hR0] at this;simp at this;omega
       have cu:=hcr u (by rw [HRr.out];exact hul)
       rw [HRr.out] at hcR
       have hcRi:(r:Int)≤(cjj:Int):=by omega
       have hbrl:br<wr.heap.size:=(Array.getElem?_eq_some_iff.1 hbr).1
       obtain ⟨hz0',hz1'⟩:=HIj.out (R.getD u 0) (mem_at (by rw [HRr.out];exact hul))
       have HNx:Hid (okUpTo L R j (u+1)=L.contains (R.getD u 0)):=okUpTo_next HU.out (by rw [HRr.out];exact hul)
       obtain ⟨z,hz⟩:∃ z:Nat,R.getD u 0=(z:Int):=⟨(R.getD u 0).toNat,by omega⟩
       rw [hz] at cu hz1' HNx
       have hzn:z<n:=by omega
       have cz:=HG.out.cell hzn
       change wr.cell? ⟨w.heap.size,z,none⟩=some (.bool (L.contains (z:Int))) at cz
       generalize L.contains (z:Int)=zb at cz HNx
       clear hcr hbr hz hz0'
       go_wp2_with fail
       go_roundg (r-(u+1))
       case measure=>omega
       case rel=>exact ⟨u+1,zb,by omega,rfl,rfl,by go_num,HNx,rfl⟩
     ·have hue:u=r:=by omega
      subst hue
      cases ok
      ·have hjm:j<m:=by
        have h1:okN (lR xs) L j=false:=by rw [←okUpTo_end HNj.out (Or.inr HU.out)];exact HU.out
        rcases Nat.lt_or_ge j m with h | h
        ·exact h
        ·have e:j=m:=by omega
         have h2:=HOk.out
         rw [←e,h1] at h2
         cases h2
       go_wp2_with fail
       go_roundg (n-(j+1))
       case measure=>omega
       case rel=>exact ⟨j+1,by omega,rfl,rfl,by go_num,rfl⟩
      ·have h1:okN (lR xs) L j=true:=by rw [←okUpTo_end HNj.out (Or.inl HRr.out.symm)];exact HU.out
       have hjm:j=m:=by
        rcases Nat.lt_or_ge j m with h | h
        ·rw [HNo.out j h] at h1;cases h1
        ·omega
       subst hjm
       have hfz:=HG.out.frozen j
       have HG5:Hid (BolB (wr.setCell ⟨w.heap.size,j,none⟩ (.bool true)) w.heap.size n (inF (ordTo (lR xs) (k+1)))):=by rw [HSk.out];exact HG.out.set fun i _=>inF_next i
       have HO5:Hid ((wr.setCell ⟨w.heap.size,j,none⟩ (.bool true)).ownsRow (w.heap.size+1) 3 1 (.slice AO k cO) k (mapI L)):=own_set HO.out (by omega)
       have HB5:Hid (Below w.heap.size w (wr.setCell ⟨w.heap.size,j,none⟩ (.bool true))):=below_set HBw.out (Nat.le_refl _)
       obtain ⟨w5,hw5⟩:∃ w5,wr.setCell ⟨w.heap.size,j,none⟩ (.bool true)=w5:=⟨_,rfl⟩
       rw [hw5] at HG5 HO5 HB5
       have hsz:w.heap.size+1≤w5.heap.size:=by have:=HG5.out.lt;omega
       clear h1
       go_wp2_with (at_builtin;refine wpList_append_own _ rfl _ _ 27 rfl (w.heap.size+1) 3 i0 (.int .i64 0) 1 8 Tryz.underlying27 hi0 hz0 hz1 hz2 rfl (by decide) _ _ _ rfl (HO5.out.alloc _) ⟨w5.heap.size,0,none⟩ 1 1 [.int .i64 j] rfl rfl one_cell one_one (by unfold maxLen;omega) (by omega) (by simp;omega) ?_)
       intro v' w6 hown' hgrow _
       obtain ⟨A6,c6,hv⟩:=own_form hown'
       subst hv
       have HO6:Hid (w6.ownsRow (w.heap.size+1) 3 1 (.slice A6 (k+1) c6) (k+1) (mapI (ordTo (lR xs) (k+1)))):=by
        show World.ownsRow ..
        rw [HSk.out,mapI_snoc]
        exact hown'
       have hne:some w.heap.size≠(Value.slice AO k cO).ownBlock:=fun e=>by have:=(HO5.out.lt _ e.symm).1;omega
       have HG6:Hid (BolB w6 w.heap.size n (inF (ordTo (lR xs) (k+1)))):=by
        show BolB ..
        unfold BolB
        rw [hgrow.block w.heap.size (by simp;omega) hne,Below.heap_alloc _ _ _ (by omega)]
        exact HG5.out
       have HB6:Hid (Below w.heap.size w w6):=(HB5.out.alloc (by omega) _).grown hgrow (by simp;omega) (fun i hi=>by have:=(HO5.out.lt i hi).1;omega)
       clear hown' hgrow hne
       go_wp2_with fail
       go_roundg (n-(k+1))
       case measure=>omega
       case rel=>exact ⟨k+1,A6,c6,by omega,rfl,rfl,HO6.out,HG6.out,HB6.out⟩
  ·have hke:k=n:=by omega
   subst hke
   have HLn:Hid ((ordTo (lR xs) k).length=k):=HOl.out k (Nat.le_refl _)
   have HI:Hid (IntsAt wr AO cO (ordTo (lR xs) k)):=by
    have h:=hO
    have e:=HLn.out
    have h':wr.ownsRow (w.heap.size+1) 3 1 (.slice AO (ordTo (lR xs) k).length cO) (ordTo (lR xs) k).length (mapI (ordTo (lR xs) k)):=by rw [e];exact h
    obtain ⟨A',c',e',hI⟩:=intT_own h'
    cases e'
    exact hI.at
   clear hO hG hBw
   go_wp2_with fail
   go_ret
   exact ⟨⟨AO,cO,by rw [HLn.out];rfl,HI.out⟩,HBw.out⟩
end Go.Proofs.YtigkeokacagabafGreatDoor
