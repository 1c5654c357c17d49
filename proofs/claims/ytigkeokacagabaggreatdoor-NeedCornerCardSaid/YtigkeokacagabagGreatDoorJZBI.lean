/-
  What package tree tells, as plain functions on plain data: the path of a member, its parts, its leafs, how a leaf counts in a member, how long paths are; and small facts on them.
-/
import Derived.Test.YtigkeokacagabagGreatDoorJZBC
import Derived.Test.YtigkeokacagabagGreatDoorJZBH
namespace Go.Proofs.YtigkeokacagabagGreatDoor
theorem selTo_congr {p q:Nat→Bool} {k:Nat} (h:∀ j,j<k→p j=q j):selTo p k=selTo q k:=by
 induction k with
 | zero=>rfl
 | succ k ih=>rw [selTo,selTo,ih fun j hj=>h j (by omega),h k (by omega)]
end Go.Proofs.YtigkeokacagabagGreatDoor
namespace Go.Proofs.YtigkeokacagabagGreatDoor
open Go.ChangeShapes Go.WideShapes Go.ChangeAt Go.RowKit
set_option maxRecDepth 20000
theorem sq_place {n X:Nat} (h:X<(n+1)*(n+1)):placeL (squareD n) 2 X=[((X / (n+1):Nat):Int),((X % (n+1):Nat):Int)]:=by
 have h1:X / (n+1)<n+1:=Nat.div_lt_of_lt_mul h
 show [((X / (n+1) % (n+1):Nat):Int),((X % (n+1):Nat):Int)]=_
 rw [Nat.mod_eq_of_lt h1]
theorem sq_by:∀ n:Fin 10,∀ a b:Fin 10,1≤n.val→a.val≤n.val→b.val≤n.val→byTo (squareD n.val) [(a.val:Int),(b.val:Int)] 2=if a.val=0 then 0 else if b.val=0 then 1 else -1:=by decide +kernel
theorem sq_mnd0:∀ n:Fin 10,∀ i:Fin 2,mNd (squareD n.val i.val) 0=(List.range n.val).map (fun x:Nat=>(x:Int)+1):=by decide +kernel
theorem sq_mnd {n i:Nat} (hn:n≤9) (hi:i<2):mNd (squareD n i) 0=(List.range n).map (fun x:Nat=>(x:Int)+1):=sq_mnd0 ⟨n,by omega⟩ ⟨i,hi⟩
theorem sq_lfv:∀ n:Fin 10,∀ a b:Fin 10,1≤n.val→a.val≤n.val→b.val≤n.val→leafV (squareD n.val) 2 [(a.val:Int),(b.val:Int)]=(decide (1≤a.val) && decide (1≤b.val)):=by decide +kernel
theorem sq_num (n a b:Nat):numI (squareD n) [(a:Int),(b:Int)] 2=((a*(n+1)+b:Nat):Int):=by
 show ((0*((n+1:Nat):Int)+(a:Int))*((n+1:Nat):Int)+(b:Int))=_
 simp
theorem sq_at {n a b:Nat} (ha:a≤n) (hb:b≤n):a*(n+1)+b<(n+1)*(n+1)∧placeL (squareD n) 2 (a*(n+1)+b)=[(a:Int),(b:Int)]:=by
 have h1:a*(n+1)+b<(n+1)*(n+1):=by
  have:a*(n+1)≤n*(n+1):=Nat.mul_le_mul_right _ ha
  rw [Nat.add_mul n 1 (n+1)]
  omega
 refine ⟨h1,?_⟩
 rw [sq_place h1]
 have e1:(a*(n+1)+b) / (n+1)=a:=by rw [Nat.mul_comm,Nat.mul_add_div (by omega),Nat.div_eq_of_lt (by omega)];omega
 have e2:(a*(n+1)+b) % (n+1)=b:=by rw [Nat.mul_comm,Nat.mul_add_mod,Nat.mod_eq_of_lt (by omega)]
 rw [e1,e2]
theorem sq_stp {n a b:Nat} (hn1:1≤n) (hn9:n≤9) (ha:a≤n) (hb:b≤n) (j:Nat):StpN (squareD n) 2 (a*(n+1)+b) j↔(a=0∧∃ x,1≤x∧x≤n∧j=x*(n+1)+b)∨(1≤a∧b=0∧∃ y,1≤y∧y≤n∧j=a*(n+1)+y):=by
 unfold StpN
 rw [(sq_at ha hb).2]
 have hby:=sq_by ⟨n,by omega⟩ ⟨a,by omega⟩ ⟨b,by omega⟩ hn1 ha hb
 have hby':byTo (squareD n) [(a:Int),(b:Int)] 2=if a=0 then 0 else if b=0 then 1 else -1:=hby
 rw [hby']
 by_cases h0:a=0
 ·subst h0
  rw [if_pos rfl]
  constructor
  ·rintro ⟨c,hc,x,hx,hj⟩
   have hc0:c=0:=by omega
   subst hc0
   have hx':x∈mNd (squareD n 0) 0:=hx
   rw [sq_mnd hn9 (show 0<2 by omega)] at hx'
   obtain ⟨y,hy,rfl⟩:=List.mem_map.1 hx'
   have hyn:=List.mem_range.1 hy
   have hj':(j:Int)=numI (squareD n) [((y+1:Nat):Int),(b:Int)] 2:=hj
   rw [sq_num] at hj'
   exact Or.inl ⟨rfl,y+1,by omega,by have:y<n:=hyn;omega,by omega⟩
  ·rintro (⟨-,x,h1,h2,rfl⟩ | ⟨h,-⟩)
   ·refine ⟨0,rfl,(x:Int),?_,?_⟩
    ·show (x:Int)∈mNd (squareD n 0) 0
     rw [sq_mnd hn9 (show 0<2 by omega)]
     exact List.mem_map.2 ⟨x-1,List.mem_range.2 (by show x-1<n;omega),by omega⟩
    ·show _=numI (squareD n) [(x:Int),(b:Int)] 2
     rw [sq_num]
   ·omega
 ·rw [if_neg h0]
  by_cases h1:b=0
  ·subst h1
   rw [if_pos rfl]
   constructor
   ·rintro ⟨c,hc,x,hx,hj⟩
    have hc0:c=1:=by omega
    subst hc0
    have hx':x∈mNd (squareD n 1) 0:=hx
    rw [sq_mnd hn9 (show 1<2 by omega)] at hx'
    obtain ⟨y,hy,rfl⟩:=List.mem_map.1 hx'
    have hyn:=List.mem_range.1 hy
    have hj':(j:Int)=numI (squareD n) [(a:Int),((y+1:Nat):Int)] 2:=hj
    rw [sq_num] at hj'
    exact Or.inr ⟨by omega,rfl,y+1,by omega,by have:y<n:=hyn;omega,by omega⟩
   ·rintro (⟨h,-⟩ | ⟨-,-,y,h2,h3,rfl⟩)
    ·exact absurd h h0
    ·refine ⟨1,rfl,(y:Int),?_,?_⟩
     ·show (y:Int)∈mNd (squareD n 1) 0
      rw [sq_mnd hn9 (show 1<2 by omega)]
      exact List.mem_map.2 ⟨y-1,List.mem_range.2 (by show y-1<n;omega),by omega⟩
     ·show _=numI (squareD n) [(a:Int),(y:Int)] 2
      rw [sq_num]
  ·rw [if_neg h1]
   constructor
   ·rintro ⟨c,hc,-⟩
    omega
   ·rintro (⟨h,-⟩ | ⟨-,h,-⟩)
    ·exact absurd h h0
    ·exact absurd h h1
theorem sq_ndd {n i k:Nat} (hn1:1≤n) (hn9:n≤9) (hi1:1≤i) (hi:i≤n) (hk1:1≤k) (hk:k≤n) {a b:Nat} (ha:a≤n) (hb:b≤n):Ndd (squareD n) 2 (a*(n+1)+b) (i*(n+1)+k)↔(a=0∨a=i)∧(b=0∨b=k):=by
 have inj:∀ {a b c d:Nat},b≤n→d≤n→a*(n+1)+b=c*(n+1)+d→a=c∧b=d:=by
  intro a b c d hb hd h
  have e1:(a*(n+1)+b) / (n+1)=a:=by rw [Nat.mul_comm,Nat.mul_add_div (by omega),Nat.div_eq_of_lt (by omega)];omega
  have e2:(c*(n+1)+d) / (n+1)=c:=by rw [Nat.mul_comm,Nat.mul_add_div (by omega),Nat.div_eq_of_lt (by omega)];omega
  have e:a=c:=by rw [←e1,h,e2]
  subst e
  exact ⟨rfl,by omega⟩
 constructor
 ·intro h
  have key:∀ {x y:Nat},Ndd (squareD n) 2 x y→y=i*(n+1)+k→∀ a b,a≤n→b≤n→x=a*(n+1)+b→(a=0∨a=i)∧(b=0∨b=k):=by
   intro x y hxy
   induction hxy with
   | refl z =>
    intro hy a b _ hb hx
    obtain ⟨h1,h2⟩:=inj hb hk (hx.symm.trans hy)
    exact ⟨Or.inr h1,Or.inr h2⟩
   | @step x z y hs _ ih =>
    intro hy a b ha hb hx
    subst hx
    rcases (sq_stp hn1 hn9 ha hb z).1 hs with ⟨h0,c,hc1,hc2,rfl⟩ | ⟨h1,h0,c,hc1,hc2,rfl⟩
    ·obtain ⟨g1,g2⟩:=ih hy c b hc2 hb rfl
     exact ⟨Or.inl h0,g2⟩
    ·obtain ⟨g1,g2⟩:=ih hy a c ha hc2 rfl
     exact ⟨g1,Or.inl h0⟩
  exact key h rfl a b ha hb rfl
 ·rintro ⟨h1,h2⟩
  have col:∀ a,1≤a→a=i→Ndd (squareD n) 2 (a*(n+1)+b) (i*(n+1)+k):=by
   intro a h3 h4
   subst h4
   rcases h2 with h2 | h2
   ·subst h2
    exact .step ((sq_stp hn1 hn9 hi (Nat.zero_le _) _).2 (Or.inr ⟨h3,rfl,k,hk1,hk,rfl⟩)) (.refl _)
   ·subst h2
    exact .refl _
  rcases h1 with h1 | h1
  ·subst h1
   exact .step ((sq_stp hn1 hn9 (Nat.zero_le _) hb _).2 (Or.inl ⟨rfl,i,hi1,hi,rfl⟩)) (col i hi1 rfl)
  ·exact col a (by omega) h1
def lfC (n Y:Nat):Bool:=decide (1≤Y / (n+1)) && decide (1≤Y % (n+1))
def drC (n i k Y:Nat):Bool:=(decide (Y / (n+1)=0) || decide (Y / (n+1)=i)) && (decide (Y % (n+1)=0) || decide (Y % (n+1)=k))
theorem lfC_len:∀ n:Fin 10,(selTo (lfC n.val) ((n.val+1)*(n.val+1))).length=n.val*n.val:=by decide +kernel
theorem drC_is:∀ n i k:Fin 10,1≤i.val→i.val≤n.val→1≤k.val→k.val≤n.val→selTo (drC n.val i.val k.val) ((n.val+1)*(n.val+1))=[0,(k.val:Int),((i.val*(n.val+1):Nat):Int),((i.val*(n.val+1)+k.val:Nat):Int)]:=by decide +kernel
theorem sq_split {n Y:Nat} (hY:Y<(n+1)*(n+1)):Y / (n+1)≤n∧Y % (n+1)≤n∧Y=Y / (n+1)*(n+1)+Y % (n+1):=by
 refine ⟨?_,?_,?_⟩
 ·have:=Nat.div_lt_of_lt_mul hY
  omega
 ·have:=Nat.mod_lt Y (show 0<n+1 by omega)
  omega
 ·rw [Nat.mul_comm]
  exact (Nat.div_add_mod Y (n+1)).symm
theorem sq_prod {n:Nat} (hn9:n≤9):prodN (squareD n) 2=(n+1)*(n+1):=(square_all ⟨n,by omega⟩).2
theorem sq_below {n:Nat} (hn1:1≤n) (hn9:n≤9):(blwL (squareD n) 2 0).length=n*n:=by
 unfold blwL
 rw [sq_prod hn9,selTo_congr (q:=lfC n) fun Y hY=>?_]
 ·exact lfC_len ⟨n,by omega⟩
 ·obtain ⟨h1,h2,h3⟩:=sq_split hY
  obtain ⟨a,ha⟩:∃ a,Y / (n+1)=a:=⟨_,rfl⟩
  obtain ⟨b,hb⟩:∃ b,Y % (n+1)=b:=⟨_,rfl⟩
  unfold blwB lfC
  rw [ha,hb] at h3 ⊢
  rw [ha] at h1
  rw [hb] at h2
  rw [h3,(sq_at h1 h2).2]
  have hl:=sq_lfv ⟨n,by omega⟩ ⟨a,by omega⟩ ⟨b,by omega⟩ hn1 h1 h2
  have hl':leafV (squareD n) 2 [(a:Int),(b:Int)]=(decide (1≤a) && decide (1≤b)):=hl
  rw [hl']
  by_cases hz:1≤a∧1≤b
  ·have hnd:ndB (squareD n) 2 0 (a*(n+1)+b)=true:=by
    rw [ndB_iff]
    have h:=(sq_ndd hn1 hn9 hz.1 h1 hz.2 h2 (a:=0) (b:=0) (Nat.zero_le _) (Nat.zero_le _)).2 ⟨Or.inl rfl,Or.inl rfl⟩
    simpa using h
   rw [hnd,Bool.true_and]
  ·have:(decide (1≤a) && decide (1≤b))=false:=by
    rw [Bool.and_eq_false_iff]
    by_cases h4:1≤a
    ·right;simp;omega
    ·left;simp;omega
   rw [this,Bool.and_false]
theorem sq_dirty {n i k:Nat} (hn1:1≤n) (hn9:n≤9) (hi1:1≤i) (hi:i≤n) (hk1:1≤k) (hk:k≤n):drtL (squareD n) 2 [((i*(n+1)+k:Nat):Int)]=[0,(k:Int),((i*(n+1):Nat):Int),((i*(n+1)+k:Nat):Int)]:=by
 unfold drtL
 rw [sq_prod hn9,selTo_congr (q:=drC n i k) fun Y hY=>?_]
 ·exact drC_is ⟨n,by omega⟩ ⟨i,by omega⟩ ⟨k,by omega⟩ hi1 hi hk1 hk
 ·obtain ⟨h1,h2,h3⟩:=sq_split hY
  have h4:=sq_ndd hn1 hn9 hi1 hi hk1 hk h1 h2
  rw [←h3] at h4
  rw [Bool.eq_iff_iff,dirB_iff]
  unfold drC
  rw [Bool.and_eq_true,Bool.or_eq_true,Bool.or_eq_true,decide_eq_true_iff,decide_eq_true_iff,decide_eq_true_iff,decide_eq_true_iff,←h4]
  constructor
  ·rintro ⟨a,ha,h5⟩
   rw [List.mem_singleton] at ha
   have:a=i*(n+1)+k:=by omega
   subst this
   exact h5
  ·intro h5
   exact ⟨_,List.mem_singleton.2 rfl,h5⟩
theorem sq_shape:∀ n a b:Fin 10,1≤n.val→a.val≤n.val→b.val≤n.val→shapeErr (squareD n.val) 2 [(a.val:Int),(b.val:Int)]=0:=by decide +kernel
theorem sq_leafs {n:Nat} (hn1:1≤n) (hn9:n≤9):neE (squareD n) 2 [0,0]=0∧(nlL (squareD n) 2 [0,0]).length=n*n:=by
 have h1:neE (squareD n) 2 [0,0]=0:=by
  unfold neE
  rw [(sq_cube hn9).1,if_neg (by simp)]
  exact sq_shape ⟨n,by omega⟩ 0 0 hn1 (Nat.zero_le _) (Nat.zero_le _)
 refine ⟨h1,?_⟩
 unfold nlL
 rw [if_pos h1]
 have e:(numI (squareD n) [0,0] 2).toNat=0:=by
  have:=sq_num n 0 0
  rw [show ([((0:Nat):Int),((0:Nat):Int)]:List Int)=[0,0] from rfl] at this
  rw [this]
  simp
 rw [e]
 exact sq_below hn1 hn9
theorem sq_drt {n i k:Nat} (hn1:1≤n) (hn9:n≤9) (hi1:1≤i) (hi:i≤n) (hk1:1≤k) (hk:k≤n):drE (squareD n) 2 [[(i:Int),(k:Int)]]=0∧ddL (squareD n) 2 [[(i:Int),(k:Int)]]=[0,(k:Int),((i*(n+1):Nat):Int),((i*(n+1)+k:Nat):Int)]:=by
 have h0:shapeErr (squareD n) 2 [(i:Int),(k:Int)]=0:=sq_shape ⟨n,by omega⟩ ⟨i,by omega⟩ ⟨k,by omega⟩ hn1 hi hk
 have hl:leafV (squareD n) 2 [(i:Int),(k:Int)]=true:=by
  have h:=sq_lfv ⟨n,by omega⟩ ⟨i,by omega⟩ ⟨k,by omega⟩ hn1 hi hk
  have h':leafV (squareD n) 2 [(i:Int),(k:Int)]=(decide (1≤i) && decide (1≤k)):=h
  rw [h']
  simp [hi1,hk1]
 have h1:drE (squareD n) 2 [[(i:Int),(k:Int)]]=0:=by
  unfold drE
  rw [(sq_cube hn9).1,if_neg (by simp),drTo_one h0 hl]
 refine ⟨h1,?_⟩
 unfold ddL
 rw [if_pos h1]
 have e:drN (squareD n) 2 [[(i:Int),(k:Int)]]=[((i*(n+1)+k:Nat):Int)]:=by
  unfold drN
  rw [List.map_cons,List.map_nil,sq_num]
 rw [e]
 exact sq_dirty hn1 hn9 hi1 hi hk1 hk
set_option maxHeartbeats 8000000 in
theorem ncorner_core (n i k:Nat) (w:World) (hn1:1≤n) (hn9:n≤9) (hi1:1≤i) (hi:i≤n) (hk1:1≤k) (hk:k≤n)
  (hLf:∀ w' A0 A C Ap cp,DimsV w' A0 2 2 (squareD n) A C→PlAt w' Ap cp [0,0]→Calls Tryz.prog 23 #[.agg #[.slice A0 2 2],.slice Ap 2 cp] w' fun e w''=>(∃ A' c',e=.returned (.tuple #[.slice A' (nlL (squareD n) 2 [0,0]).length c',errV (neE (squareD n) 2 [0,0])])∧IntsAt w'' A' c' (nlL (squareD n) 2 [0,0]))∧Below w'.heap.size w' w'')
  (hDr:∀ w' A0 A C Aq cq xs,DimsV w' A0 2 2 (squareD n) A C→PlsA w' Aq cq xs→xs.length≤200→Calls Tryz.prog 27 #[.agg #[.slice A0 2 2],.slice Aq xs.length cq] w' fun e w''=>(∃ A' c',e=.returned (.tuple #[.slice A' (ddL (squareD n) 2 (lP xs)).length c',errV (drE (squareD n) 2 (lP xs))])∧IntsAt w'' A' c' (ddL (squareD n) 2 (lP xs)))∧Below w'.heap.size w' w'') :
  Calls Tryz.prog 7 #[.int .i64 n,.int .i64 i,.int .i64 k] w fun e w'=>e=.returned (.bool true)∧Below w.heap.size w w':=by
 obtain ⟨hle,hll⟩:=sq_leafs hn1 hn9
 obtain ⟨hde,hdl⟩:=sq_drt hn1 hn9 hi1 hi hk1 hk
 rw [hle,errV_zero,hll] at hLf
 obtain ⟨NN,hNN⟩:∃ NN,n*n=NN:=⟨_,rfl⟩
 rw [hNN] at hLf
 obtain ⟨P1,hP1⟩:∃ P1,i*(n+1)=P1:=⟨_,rfl⟩
 rw [hP1] at hdl
 have hN81:NN≤81:=by rw [←hNN];exact Nat.mul_le_mul (by omega:n≤9) (by omega:n≤9)
 have hP90:P1≤90:=by rw [←hP1];exact Nat.mul_le_mul (by omega:i≤9) (by omega:n+1≤10)
 have hNI:(n:Int)*(n:Int)=(NN:Int):=by rw [←hNN];simp
 have hPI:(i:Int)*((n:Int)+1)=(P1:Int):=by rw [←hP1];simp
 have hw0:IntKind.i64.wrap ((n:Int)*(n:Int))=(NN:Int):=by rw [hNI,IntKind.wrap_i64];omega
 have hw1:IntKind.i64.wrap ((n:Int)+1)=(n:Int)+1:=by rw [IntKind.wrap_i64];omega
 have hw2:IntKind.i64.wrap ((i:Int)*((n:Int)+1))=(P1:Int):=by rw [hPI,IntKind.wrap_i64];omega
 have hw3:IntKind.i64.wrap ((P1:Int)+(k:Int))=((P1+k:Nat):Int):=by rw [IntKind.wrap_i64];omega
 obtain ⟨P2,hP2⟩:∃ P2,P1+k=P2:=⟨_,rfl⟩
 rw [hP2] at hw3 hdl
 have HLf:=hid_of hLf
 have HDr:=hid_of hDr
 have HDe:=hid_of hde
 have HDl:=hid_of hdl
 have a1:(1:Int)≤(n:Int):=by omega
 have a2:(n:Int)≤9:=by omega
 have a3:(1:Int)≤(i:Int):=by omega
 have a4:(i:Int)≤(n:Int):=by omega
 have a5:(1:Int)≤(k:Int):=by omega
 have a6:(k:Int)≤(n:Int):=by omega
 have hsq:=square_any n w (by omega)
 clear hLf hDr hle hll hde hdl hNN hP1 hP2 hNI hPI
 go_enter Tryz.func7,Tryz.ntmps7
 go_wp2_with fail
 refine hsq.mono ?_
 rintro e w1 ⟨⟨A0,AA,CC,rfl,hD⟩,hb1⟩
 obtain ⟨y1,hy1⟩:∃ y,w1.alloc (.cells #[.slice A0 2 2] 29)=y:=⟨_,rfl⟩
 have hB1:Below w1.heap.size w1 y1:=by rw [←hy1];go_grown
 have hg1:y1.heap[w1.heap.size]?=some (.cells #[.slice A0 2 2] 29 (0,0)):=by rw [←hy1];exact heap_alloc_new ..
 have o1:y1.cell? ⟨w1.heap.size,0,none⟩=some (.slice A0 2 2):=(Lib.cell_of_heap hg1 0).trans rfl
 obtain ⟨z1,hz1⟩:∃ z,y1.alloc (.cells #[.int .i64 0,.int .i64 0] 3)=z:=⟨_,rfl⟩
 have hBz:Below y1.heap.size y1 z1:=by rw [←hz1];go_grown
 have hpz:PlAt z1 (some ⟨y1.heap.size,0,none⟩) 2 [0,0]:=by
  have h:IntB z1 y1.heap.size [0,0]:=by rw [←hz1];exact heap_alloc_new ..
  exact h.pl
 have hc:=HLf.out z1 A0 AA CC _ _ (hD.later (onB hB1 hBz)) hpz
 have HD:=hid_of (hD.later (onB hB1 hBz))
 have HBz:Hid (Below w.heap.size w z1):=onB hb1 (onB hB1 hBz)
 have HG1:Hid (z1.heap[w1.heap.size]?=some (.cells #[.slice A0 2 2] 29 (0,0))):=(hBz.block _ (Array.getElem?_eq_some_iff.1 hg1).1).trans hg1
 clear hsq hD hb1 hB1 hg1 hBz hpz
 go_wp2_with fail
 refine hc.mono ?_
 rintro e w2 ⟨⟨A2,c2,rfl,-⟩,hb2⟩
 have hg2:=(hb2.block _ (Array.getElem?_eq_some_iff.1 HG1.out).1).trans HG1.out
 have o2:w2.cell? ⟨w1.heap.size,0,none⟩=some (.slice A0 2 2):=(Lib.cell_of_heap hg2 0).trans rfl
 obtain ⟨y3,hy3⟩:∃ y,(w2.alloc (.cells #[.int .i64 i,.int .i64 k] 3)).alloc (.cells #[.slice (some ⟨w2.heap.size,0,none⟩) 2 2] 44)=y:=⟨_,rfl⟩
 have hB3:Below w2.heap.size w2 y3:=by rw [←hy3];go_grown
 have hg3:y3.heap[w2.heap.size]?=some (.cells #[.int .i64 i,.int .i64 k] 3 (0,0)):=by
  rw [←hy3,heap_alloc_old _ _ (by simp)]
  exact heap_alloc_new ..
 have hg4:y3.heap[w2.heap.size+1]?=some (.cells #[.slice (some ⟨w2.heap.size,0,none⟩) 2 2] 44 (0,0)):=by
  rw [←hy3]
  have h:=heap_alloc_new (w2.alloc (.cells #[.int .i64 i,.int .i64 k] 3)) (.cells #[.slice (some ⟨w2.heap.size,0,none⟩) 2 2] 44)
  simpa using h
 have hpa:PlsA y3 (some ⟨w2.heap.size+1,0,none⟩) 1 [(⟨[(i:Int),(k:Int)],some ⟨w2.heap.size,0,none⟩,2⟩:PL)]:=by
  refine ⟨Nat.le_refl _,Or.inr ⟨w2.heap.size+1,0,rfl,(Array.getElem?_eq_some_iff.1 hg4).1,fun j hj=>?_⟩,fun x hx=>?_⟩
  ·have hj0:j=0:=by have:j<1:=hj;omega
   subst hj0
   exact (Lib.cell_of_heap hg4 0).trans rfl
  ·rw [List.mem_singleton.1 hx]
   have h:IntB y3 w2.heap.size [(i:Int),(k:Int)]:=hg3
   exact h.pl
 have hc2:=HDr.out y3 A0 AA CC _ _ _ (HD.out.later (onB hb2 hB3)) hpa (by simp)
 have hlp:lP [(⟨[(i:Int),(k:Int)],some ⟨w2.heap.size,0,none⟩,2⟩:PL)]=[[(i:Int),(k:Int)]]:=rfl
 rw [hlp,HDe.out,HDl.out,errV_zero] at hc2
 have HB3:Hid (Below w.heap.size w y3):=onB HBz.out (onB hb2 hB3)
 simp only [List.length_cons,List.length_nil,Nat.zero_add] at hc2
 clear hc hb2 hg2 hB3 hg3 hg4 hpa hlp hy1 hz1 o1
 go_wp2_with fail
 refine hc2.mono ?_
 rintro e w3 ⟨⟨A3,c3,rfl,hI3⟩,hb3⟩
 have HB4:Hid (Below w.heap.size w w3):=onB HB3.out hb3
 obtain ⟨hc4,h0 | ⟨b,rfl,hbw,hcl⟩⟩:=hI3
 ·cases h0
 have d0:w3.cell? ⟨b,0,none⟩=some (.int .i64 0):=hcl 0 (by simp)
 have d3:w3.cell? ⟨b,3,none⟩=some (.int .i64 (P2:Int)):=hcl 3 (by simp)
 have hcI:(4:Int)≤(c3:Int):=by have:4≤c3:=hc4;omega
 clear hcl hc2 hb3 hc4 hy3 o2
 go_wp2_with fail
 go_ret
 exact ⟨by simp,HB4.out⟩
set_option maxHeartbeats 4000000 in
theorem ncorner_law (n i k:Int) (w:World)
  (hLf:∀ m:Nat,m≤9→∀ w' A0 A C Ap cp,DimsV w' A0 2 2 (squareD m) A C→PlAt w' Ap cp [0,0]→Calls Tryz.prog 23 #[.agg #[.slice A0 2 2],.slice Ap 2 cp] w' fun e w''=>(∃ A' c',e=.returned (.tuple #[.slice A' (nlL (squareD m) 2 [0,0]).length c',errV (neE (squareD m) 2 [0,0])])∧IntsAt w'' A' c' (nlL (squareD m) 2 [0,0]))∧Below w'.heap.size w' w'')
  (hDr:∀ m:Nat,m≤9→∀ w' A0 A C Aq cq xs,DimsV w' A0 2 2 (squareD m) A C→PlsA w' Aq cq xs→xs.length≤200→Calls Tryz.prog 27 #[.agg #[.slice A0 2 2],.slice Aq xs.length cq] w' fun e w''=>(∃ A' c',e=.returned (.tuple #[.slice A' (ddL (squareD m) 2 (lP xs)).length c',errV (drE (squareD m) 2 (lP xs))])∧IntsAt w'' A' c' (ddL (squareD m) 2 (lP xs)))∧Below w'.heap.size w' w'') :
  Calls Tryz.prog 7 #[.int .i64 n,.int .i64 i,.int .i64 k] w fun e w'=>e=.returned (.bool true)∧Below w.heap.size w w':=by
 by_cases h0:n<1
 ·clear hLf hDr
  go_enter Tryz.func7,Tryz.ntmps7
  go_wp2_with fail
  go_ret
  exact ⟨rfl,by go_grown⟩
 by_cases h1:9<n
 ·clear hLf hDr
  go_enter Tryz.func7,Tryz.ntmps7
  go_wp2_with fail
  go_ret
  exact ⟨rfl,by go_grown⟩
 by_cases h2:i<1
 ·clear hLf hDr
  go_enter Tryz.func7,Tryz.ntmps7
  go_wp2_with fail
  go_ret
  exact ⟨rfl,by go_grown⟩
 by_cases h3:n<i
 ·clear hLf hDr
  go_enter Tryz.func7,Tryz.ntmps7
  go_wp2_with fail
  go_ret
  exact ⟨rfl,by go_grown⟩
 by_cases h4:k<1
 ·clear hLf hDr
  go_enter Tryz.func7,Tryz.ntmps7
  go_wp2_with fail
  go_ret
  exact ⟨rfl,by go_grown⟩
 by_cases h5:n<k
 ·clear hLf hDr
  go_enter Tryz.func7,Tryz.ntmps7
  go_wp2_with fail
  go_ret
  exact ⟨rfl,by go_grown⟩
 obtain ⟨m,rfl⟩:∃ m:Nat,n=(m:Int):=⟨n.toNat,by omega⟩
 obtain ⟨a,rfl⟩:∃ a:Nat,i=(a:Int):=⟨i.toNat,by omega⟩
 obtain ⟨b,rfl⟩:∃ b:Nat,k=(b:Int):=⟨k.toNat,by omega⟩
 exact ncorner_core m a b w (by omega) (by omega) (by omega) (by omega) (by omega) (by omega) (hLf m (by omega)) (hDr m (by omega))
end Go.Proofs.YtigkeokacagabagGreatDoor
namespace Go.Proofs.YtigkeokacagabagGreatDoor
open Go.ChangeShapes Go.WideShapes Go.ChangeAt Go.RowKit
theorem ncorner_full (n i k:Int) (w:World):Calls Tryz.prog 7 #[.int .i64 n,.int .i64 i,.int .i64 k] w fun e w'=>e=.returned (.bool true)∧Below w.heap.size w w' :=
 ncorner_law n i k w (fun m _ w' A0 A C Ap cp h1 h2=>nleafs_any A0 2 2 (squareD m) A C Ap cp [0,0] w' h1 h2) (fun m _ w' A0 A C Aq cq xs h1 h2 h3=>ndirty_any A0 2 2 (squareD m) A C Aq cq xs w' h1 h2 h3)
end Go.Proofs.YtigkeokacagabagGreatDoor
