/-
  What the document's own AllTold answers, in whatever memory: of each place, by number, the numbers of the places that it needs.
-/
import Derived.Test.YtigkeokacagabafGreatDoorJYBI
namespace Go.Proofs.YtigkeokacagabafGreatDoor
open Go.ChangeShapes Go.WideShapes Go.ChangeAt Go.RowKit
set_option maxRecDepth 20000
set_option maxHeartbeats 8000000 in
theorem salltold_any (A0:Option Addr) (cap n:Nat) (D:Nat→Dm) (A:Nat→Option Addr) (C:Nat→Nat) (w:World) (hR:AllR D n) (hE:(allErr D n).2.2=0) (hM:DimsV w A0 cap n D A C) :
  Calls Tryz.prog 30 #[.agg #[.slice A0 n cap]] w fun e w'=>(∃ A' c' xs,e=.returned (.slice A' (prodN D n) c')∧xs.length=prodN D n∧RowsV w' A' c' xs∧∀ i,i<prodN D n→ToldP D n (placeL D n i) (xs.getD i noR).p)∧Below w.heap.size w w':=by
 obtain ⟨i0,hi0,hz0,hz1,hz2⟩:=info_parts Tryz.infoRow
 obtain ⟨hn1,hn4,hp3,hd⟩:=allErr_some hE
 have hB0:=ownOut_below w A0 n cap 42
 have hS:=ownOut_size w A0 n cap 42
 have hA:=ownOut_at w A0 n cap 42
 obtain ⟨W,hW⟩:∃ W,ownOut w A0 n cap 42=W:=⟨_,rfl⟩
 rw [hW] at hB0 hS hA
 unfold ownOut at hW
 have HB0:Hid (Below w.heap.size w W):=hB0
 have HM:Hid (DimsV w A0 cap n D A C):=hM
 have HA:Hid (W.cell? ⟨w.heap.size,0,none⟩=some (.slice A0 n cap)):=hA
 have HR:Hid (AllR D n):=hR
 have HE:Hid ((allErr D n).2.2=0):=hE
 have hsz:w.heap.size<W.heap.size:=by omega
 have hnI:(n:Int)≤4:=by omega
 have hmb:=smembers_any A0 cap n D A C W hn4 hR (hM.later hB0)
 have HSz:Hid (∀ w',Below W.heap.size W w'→Calls Tryz.prog 54 #[.agg #[.slice A0 n cap]] w' fun e w''=>e=.returned (.int .i64 (prodN D n))∧Below w'.heap.size w' w''):=fun w' hB=>by
  obtain ⟨hcap,h0 | ⟨b,o,rfl,hMs⟩⟩:=HM.out.later (onB HB0.out hB)
  ·omega
  exact osize_any b o n cap D A C w' hn4 (fun j hj=>(hd j hj).2) hMs
 obtain ⟨PN,hPN⟩:∃ PN,prodN D n=PN:=⟨_,rfl⟩
 have HPN:Hid (prodN D n=PN):=hPN
 rw [hPN] at HSz hp3 ⊢
 have hPI:(PN:Int)≤3000:=by omega
 clear hM hB0 hR hS hE hd hPN
 go_enter Tryz.func30,Tryz.ntmps30
 go_wp2_with fail
 refine hmb.mono ?_
 rintro e w1 ⟨⟨AN,cN,ys,rfl,hyl,hY,hyn⟩,hb1⟩
 have HB1:Hid (Below W.heap.size W w1):=hb1
 have HYl:Hid (ys.length=n):=hyl
 have HY:Hid (Rows2V w1 AN cN ys):=hY
 have HYn:Hid (∀ i,i<n→lR (ys.getD i noR2).xs=ndL (D i)):=hyn
 have cw1:w1.cell? ⟨w.heap.size,0,none⟩=some (.slice A0 n cap):=(hb1.cell (p:=⟨w.heap.size,0,none⟩) hsz).trans HA.out
 have hsz1:w.heap.size<w1.heap.size:=Nat.lt_of_lt_of_le hsz hb1.size
 have hszc:=HSz.out w1 hb1
 clear hb1 hyl hY hyn hmb hW hA
 go_wp2_with fail
 refine hszc.mono ?_
 rintro e w2 ⟨rfl,hb2⟩
 have HB2:Hid (Below w1.heap.size w1 w2):=hb2
 have HA2:Hid (w2.cell? ⟨w.heap.size,0,none⟩=some (.slice A0 n cap)):=(hb2.cell (p:=⟨w.heap.size,0,none⟩) hsz1).trans cw1
 have hsz2:w.heap.size<w2.heap.size:=Nat.lt_of_lt_of_le hsz1 hb2.size
 clear hb2 hszc cw1
 go_wp2_with fail
 go_loopg [4,6] PN (fun g s4 s6 wr => ∃ (k:Nat) (xs:List RL),k≤PN∧g=PN-k∧s6=.int .i64 k∧Hid (xs.length=k∧(∀ i,i<k→ToldP D n (placeL D n i) (xs.getD i noR).p)∧∀ x∈xs,IntT wr x.A x.c x.p)∧wr.ownsRow w2.heap.size 27 1 s4 k (cellsR xs)∧Below w2.heap.size w2 wr)
 case atStart=>exact ⟨0,[],Nat.zero_le _,rfl,rfl,(⟨rfl,fun i hi=>absurd hi (Nat.not_lt_zero _),fun x hx=>by cases hx⟩:_∧_∧_),World.ownsRow_nil _ _ _ _,Below.refl _ _⟩
 case round =>
  obtain ⟨k,xs,hk,rfl,rfl,HX,hO,hBw⟩:=hrel
  have HO:Hid (wr.ownsRow w2.heap.size 27 1 u4 k (cellsR xs)):=hO
  have HBw:Hid (Below w2.heap.size w2 wr):=hBw
  have cw:wr.cell? ⟨w.heap.size,0,none⟩=some (.slice A0 n cap):=(hBw.cell (p:=⟨w.heap.size,0,none⟩) hsz2).trans HA2.out
  have hszr:w.heap.size<wr.heap.size:=Nat.lt_of_lt_of_le hsz2 hBw.size
  by_cases hlt:k<PN
  ·have hki:(k:Int)<(PN:Int):=by omega
   have HBa:Hid (Below w.heap.size w wr):=onB HB0.out (onB HB1.out (onB HB2.out hBw))
   have HIk:Hid (InO D n (placeL D n k)):=placeL_in HE.out
   have hpl:=placeL_len D n k
   have HAt:Hid (∀ w',Below wr.heap.size wr w'→Calls Tryz.prog 24 #[.agg #[.slice A0 n cap],.int .i64 k] w' fun e w''=>(∃ A' c',e=.returned (.slice A' n c')∧PlAt w'' A' c' (placeL D n k))∧Below w'.heap.size w' w''):=fun w' hB=>by
    have h:=rat_any A0 cap n D A C k w' HE.out (by rw [HPN.out];exact hlt) (HM.out.later (onB HBa.out hB))
    rw [hpl] at h
    exact h
   have HTo:Hid (∀ A' c' w',Below wr.heap.size wr w'→PlAt w' A' c' (placeL D n k)→Calls Tryz.prog 55 #[.agg #[.slice A0 n cap],.slice AN n cN,.slice A' n c'] w' fun e w''=>(∃ A' c' T,e=.returned (.slice A' T.length c')∧RiseV w'' A' c' T∧ToldP D n (placeL D n k) T)∧Below w'.heap.size w' w''):=fun A' c' w' hB hP'=>by
    have h:=stold_any A0 cap n D A C AN cN ys A' c' (placeL D n k) w' HR.out HIk.out (HM.out.later (onB HBa.out hB)) HYl.out (HY.out.later (onB HB2.out (onB HBw.out hB))) HYn.out hP'
    rw [hpl] at h
    exact h
   have HCw:Hid (∀ w',Below wr.heap.size wr w'→w'.cell? ⟨w.heap.size,0,none⟩=some (.slice A0 n cap)∧w.heap.size<w'.heap.size):=fun w' hB=>⟨(hB.cell (p:=⟨w.heap.size,0,none⟩) hszr).trans cw,Nat.lt_of_lt_of_le hszr hB.size⟩
   clear hBw hO hpl
   obtain ⟨q,hq⟩:∃ q,placeL D n k=q:=⟨_,rfl⟩
   have HQ:Hid (placeL D n k=q):=hq
   rw [hq] at HAt HTo
   clear hq
   go_upto_region 7 with fail
   go_cut [7] from 12 to 26 (fun s7 wx => ∃ A' c' T,s7=.slice A' T.length c'∧RiseV wx A' c' T∧ToldP D n q T∧Below wr.heap.size wr wx)
   case first =>
    go_region_law ((first
     | (go_simp;refine (HAt.out _ (by go_grown)).mono ?_;rintro e w3 ⟨⟨A3,c3,rfl,hP3⟩,hb3⟩;have hN3:=onB (W0:=wr) (by go_grown) hb3;obtain ⟨cw3,hw3⟩:=HCw.out _ hN3;clear hb3)
     | (go_simp;refine (HTo.out _ _ _ (by go_grown) (by first | exact hP3 | exact hP3.later (by go_grown))).mono ?_;rintro e w4 ⟨⟨A4,c4,T4,rfl,hR4,hT4⟩,hb4⟩;have hN4:=onB (W0:=wr) (by go_grown) hb4;obtain ⟨cw4,hw4⟩:=HCw.out _ hN4;have HR4:=hid_of hR4;have HT4:=hid_of hT4;have HN4:=hid_of hN4;clear hb4)))
    all_goals clear hP3 hR4 hT4 hN3 hN4
    all_goals go_wp2_with fail
    all_goals go_meet
    all_goals first
     | exact ⟨A4,c4,T4,rfl,HR4.out,HT4.out,HN4.out⟩
     | exact ⟨A4,c4,T4,rfl,HR4.out.later (below_drewN (Below.refl _ _) _),HT4.out,below_drewN HN4.out _⟩
   case rest =>
    obtain ⟨A7,c7,T,rfl,hR7,hT7,hb7⟩:=hcut
    obtain ⟨wx,rfl⟩:∃ wx:World,wx=wc:=⟨_,rfl⟩
    have HB7:Hid (Below w2.heap.size w2 wx):=onB HBw.out hb7
    have HO7:Hid (wx.ownsRow w2.heap.size 27 1 u4 k (cellsR xs)):=own_later HO.out hb7
    have HX7:Hid (∀ x∈xs,IntT wx x.A x.c x.p):=fun x hx=>(HX.out.2.2 x hx).later hb7
    have HR7:Hid (IntT wx A7 c7 T):=hR7.intT
    have HT7:Hid (ToldP D n q T):=hT7
    have hs7:=HB7.out.size
    obtain ⟨tl,htl⟩:∃ tl,T.length=tl:=⟨_,rfl⟩
    have HTl:Hid (T.length=tl):=htl
    rw [htl]
    clear hb7 hR7 hT7 htl
    go_wp2_with (at_builtin;refine wpList_append_own _ rfl _ _ 70 rfl w2.heap.size 27 i0 (.slice none 0 0) 1 24 Tryz.underlying70 hi0 hz0 hz1 hz2 rfl (by decide) _ _ _ rfl (HO7.out.alloc _) ⟨wx.heap.size,0,none⟩ 1 1 [.slice A7 tl c7] rfl rfl one_cell (by intro u hu;simp at hu;subst hu;rfl) (by unfold maxLen;omega) (by omega) (by simp;omega) ?_)
    intro v' w5 hown' hgrow _
    have HB5:Hid (Below w2.heap.size w2 w5):=grown_own HB7.out HO7.out hgrow
    have HX5:Hid ((xs ++ [(⟨T,A7,c7⟩:RL)]).length=k+1∧(∀ i,i<k+1→ToldP D n (placeL D n i) ((xs ++ [(⟨T,A7,c7⟩:RL)]).getD i noR).p)∧∀ x∈xs ++ [(⟨T,A7,c7⟩:RL)],IntT w5 x.A x.c x.p):=by
     have hlen:=HX.out.1
     refine ⟨by rw [List.length_append,hlen];rfl,fun i hi=>?_,fun x hx=>?_⟩
     ·by_cases e:i=k
      ·rw [e,List.getD_eq_getElem?_getD,List.getElem?_append_right (by omega),hlen,Nat.sub_self,HQ.out]
       exact HT7.out
      ·rw [List.getD_eq_getElem?_getD,List.getElem?_append_left (by omega),←List.getD_eq_getElem?_getD]
       exact HX.out.2.1 i (by omega)
     ·rcases List.mem_append.1 hx with hx | hx
      ·exact ((HX7.out x hx).later (by go_grown)).row (HO7.out.alloc _) hgrow
      ·rw [List.mem_singleton.1 hx]
       exact (HR7.out.later (by go_grown)).row (HO7.out.alloc _) hgrow
    have HO5:Hid (w5.ownsRow w2.heap.size 27 1 v' (k+1) (cellsR (xs ++ [(⟨T,A7,c7⟩:RL)]))):=by
     show World.ownsRow ..
     rw [cellsR_append]
     have e:cellsR [(⟨T,A7,c7⟩:RL)]=[.slice A7 tl c7]:=by simp [cellsR,HTl.out]
     rw [e]
     exact hown'
    clear hown' hgrow
    go_wp2_with fail
    go_roundg (PN-(k+1))
    case measure=>omega
    case rel=>exact ⟨k+1,_,by omega,rfl,by go_num,HX5,HO5.out,HB5.out⟩
  ·have hke:k=PN:=by omega
   subst hke
   have HF:Hid (∃ A' c',u4=.slice A' k c'∧RowsV wr A' c' xs):=by
    have hlen:=HX.out.1
    have h:=hO
    rw [←hlen] at h
    obtain ⟨A',c',e,hv⟩:=rows_own h HX.out.2.2
    rw [hlen] at e
    exact ⟨A',c',e,hv⟩
   clear hO hBw
   go_wp2_with fail
   go_ret
   obtain ⟨A',c',e,hv⟩:=HF.out
   exact ⟨⟨A',c',xs,by rw [←e];rfl,HX.out.1,hv,HX.out.2.1⟩,onB HB0.out (onB HB1.out (onB HB2.out HBw.out))⟩
end Go.Proofs.YtigkeokacagabafGreatDoor
namespace Go.Proofs.YtigkeokacagabafGreatDoor
section
variable {D:Nat→Dm} {n:Nat}
theorem told_less (hR:AllR D n) (hE:(allErr D n).2.2=0) {i:Nat} {T:List Int} (hT:ToldP D n (placeL D n i) T) {z:Int} (hz:z∈T):∃ j:Nat,z=(j:Int)∧j<prodN D n∧msrTo D (placeL D n j) n<msrTo D (placeL D n i) n:=by
 obtain ⟨b,hb,x,hx,rfl⟩:=(hT.2.2 z).1 hz
 have hI:InO D n (placeL D n i):=placeL_in hE
 have hbn:b<n:=by
  rcases by_in D (placeL D n i) n with h | ⟨b',h1,h2⟩
  ·omega
  ·omega
 have hxi:=mNd_in hx
 have hI2:=inO_set hI hbn hxi.1 hxi.2
 have hp0:=hI.lo b hbn
 have hp1:=hI.hi b hbn
 have hrk:=rk_less (hR b hbn) (i:=((placeL D n i).getD b 0).toNat) (by omega) hx
 rw [Int.toNat_of_nonneg hp0] at hrk
 have hms:=(msr_less (by rw [hI.len];exact hbn) hrk n).2 hbn
 obtain ⟨j,hj⟩:∃ j:Nat,numI D ((placeL D n i).set b x) n=(j:Int):=⟨(numI D ((placeL D n i).set b x) n).toNat,by have:=(numI_bound hI2 (Nat.le_refl n)).1;omega⟩
 refine ⟨j,hj,by have:=(numI_bound hI2 (Nat.le_refl n)).2.1;omega,?_⟩
 have hpn:=place_num hI2
 rw [hj,Int.toNat_natCast] at hpn
 rw [hpn]
 exact hms
theorem none_waits (hR:AllR D n) (hE:(allErr D n).2.2=0) (T:Nat→List Int) (hT:∀ i,i<prodN D n→ToldP D n (placeL D n i) (T i)) (done:Nat→Bool) (h:∀ i,i<prodN D n→done i=false→∃ z∈T i,done z.toNat=false):∀ i,i<prodN D n→done i=true:=by
 have hall:∀ (m i:Nat),i<prodN D n→msrTo D (placeL D n i) n<m→done i=true:=by
  intro m
  induction m with
  | zero=>intro i _ hm;omega
  | succ m ih =>
   intro i hi hm
   cases hd:done i with
   | true=>rfl
   | false =>
    obtain ⟨z,hz,hn⟩:=h i hi hd
    obtain ⟨j,rfl,hj,hl⟩:=told_less hR hE (hT i hi) hz
    rw [Int.toNat_natCast,ih j hj (by omega)] at hn
    cases hn
 exact fun i hi=>hall _ i hi (Nat.lt_succ_self _)
theorem sol_at (hR:AllR D n) (hE:(allErr D n).2.2=0) (inp:List Int→Int×Int) (c:Nat→Int×Int) {i:Nat} {T:List Int} (hT:ToldP D n (placeL D n i) T) (hc:∀ z∈T,c z.toNat=solV D n inp (placeL D n z.toNat)) {b:Nat} (hb:byTo D (placeL D n i) n=(b:Int)):solV D n inp (placeL D n i)=oneV (D b) (fun x=>c (numI D ((placeL D n i).set b x) n).toNat) ((placeL D n i).getD b 0).toNat:=by
 have hI:InO D n (placeL D n i):=placeL_in hE
 have hbn:b<n:=by
  rcases by_in D (placeL D n i) n with h | ⟨b',h1,h2⟩
  ·omega
  ·omega
 rw [sol_by hR inp hI hb]
 obtain ⟨hd,hm,-,-⟩:=rErr_right (hR b hbn)
 have hp0:=hI.lo b hbn
 have hp1:=hI.hi b hbn
 refine oneV_same hd (hm _ (by omega)) fun x hx=>?_
 have hxi:=mNd_in hx
 have h1:=hc _ ((hT.2.2 _).2 ⟨b,hb,x,hx,rfl⟩)
 rw [place_num (inO_set hI hbn hxi.1 hxi.2)] at h1
 exact h1.symm
end
end Go.Proofs.YtigkeokacagabafGreatDoor
namespace Go.Proofs.YtigkeokacagabafGreatDoor
open Go.ChangeShapes Go.WideShapes Go.ChangeAt Go.RowKit
set_option maxRecDepth 20000
theorem toL_ne {x y:ByteArray} (h : ¬ y=x):(y.toList == x.toList)=false:=by
 rw [beq_eq_false_iff_ne]
 intro e
 apply h
 rw [Lib.toList_data,Lib.toList_data] at e
 obtain ⟨yd⟩:=y
 obtain ⟨xd⟩:=x
 exact congrArg ByteArray.mk (Array.toList_inj.1 e)
set_option maxHeartbeats 2000000 in
theorem rnamed_any (An:Option Addr) (cn:Nat) (N:List ByteArray) (x:ByteArray) (w:World) (hN:NmV w An cn N) :
  Calls Tryz.prog 113 #[.slice An N.length cn,.string x] w fun e w'=>e=.returned (.int .i64 (whereS N x))∧Below w.heap.size w w':=by
 have HN:Hid (NmV w An cn N):=hN
 unfold whereS
 obtain ⟨n,hn⟩:∃ n,N.length=n:=⟨_,rfl⟩
 have HL:Hid (N.length=n):=hn
 have hni:(n:Int)<4611686018427387904:=by have:=hN.2.1;omega
 rw [hn]
 clear hN hn
 go_enter Tryz.func113,Tryz.ntmps113
 go_wp2_with fail
 go_loopg [5] n (fun g s5 wr => ∃ (k:Nat),k≤n∧g=n-k∧s5=.int .i64 k∧findFrom (isS N x) (n-k) k=findFrom (isS N x) n 0∧Below w.heap.size w wr)
 case atStart=>exact ⟨0,Nat.zero_le _,rfl,rfl,rfl,Below.refl _ _⟩
 case round =>
  obtain ⟨k,hk,rfl,rfl,hf,hBw⟩:=hrel
  have HF:Hid (findFrom (isS N x) (n-k) k=findFrom (isS N x) n 0):=hf
  have HW:Hid (Below w.heap.size w wr):=hBw
  clear hf hBw
  by_cases hlt:k<n
  ·have hki:(k:Int)<(n:Int):=by omega
   have HK:Hid (n-k=(n-(k+1))+1):=by show _=_;omega
   obtain ⟨-,-,-,h0 | ⟨b,o,rfl,hb,hc⟩⟩:=HN.out.later HW.out
   ·have:=HL.out;rw [h0] at this;simp at this;omega
   have c0:=hc k (by rw [HL.out];exact hlt)
   obtain ⟨y,hy⟩:∃ y,N.getD k noS=y:=⟨_,rfl⟩
   have HI:Hid (isS N x k=decide (y=x)):=by show _=_;unfold isS;rw [hy]
   rw [hy] at c0
   clear hc hy
   by_cases hyx:y=x
   ·have HH:Hid (isS N x k=true):=by show _=_;rw [HI.out,decide_eq_true hyx]
    subst hyx
    go_wp2_with fail
    go_ret
    exact ⟨by rw [←HF.out,HK.out,findFrom_hit _ HH.out];rfl,HW.out⟩
   ·have HH:Hid (isS N x k=false):=by show _=_;rw [HI.out,decide_eq_false hyx]
    have hne:=toL_ne hyx
    clear hyx
    go_wp2_with fail
    go_roundg (n-(k+1))
    case measure=>omega
    case rel=>exact ⟨k+1,by omega,rfl,by go_num,by rw [←HF.out,HK.out,findFrom_miss _ HH.out],HW.out⟩
  ·have hke:k=n:=by omega
   subst hke
   go_wp2_with fail
   go_ret
   exact ⟨by rw [←HF.out,Nat.sub_self];rfl,HW.out⟩
theorem miss_bin {N:List ByteArray} {o:Int} {a b:Tre} (h:missT N (.bin o a b)=false):missT N a=false∧missT N b=false:=by
 unfold missT at *
 rw [refsT,List.any_append,Bool.or_eq_false_iff] at h
 exact h
theorem rop_yes {o:Int} {a b:Int×Int} (ha:okC a) (hb:okC b):(o=3→RefTo 73 #[.agg #[.int .i64 a.1,.int .i64 a.2],.agg #[.int .i64 b.1,.int .i64 b.2],.int .i64 1] (opP o a b))∧(o=4→RefTo 73 #[.agg #[.int .i64 a.1,.int .i64 a.2],.agg #[.int .i64 b.1,.int .i64 b.2],.int .i64 (-1)] (opP o a b))∧(o=5→RefTo 114 #[.agg #[.int .i64 a.1,.int .i64 a.2],.agg #[.int .i64 b.1,.int .i64 b.2]] (opP o a b))∧(o=6→RefTo 115 #[.agg #[.int .i64 a.1,.int .i64 a.2],.agg #[.int .i64 b.1,.int .i64 b.2]] (opP o a b)):=by
 refine ⟨?_,?_,?_,?_⟩ <;> rintro rfl
 ·exact rplus_plus _ _ _ _ ha hb
 ·exact rplus_minus _ _ _ _ ha hb
 ·exact rtimes_any _ _ _ _ ha hb
 ·exact rover_any _ _ _ _ ha hb
theorem box2 {W w1:World} {p T:Nat} {u v:Value} (hg:W.heap[p]?=some (.cells #[u,v] T (0,0))) (hb:Below W.heap.size W w1):p<w1.heap.size∧w1.cell? ⟨p,0,none⟩=some u∧w1.cell? ⟨p,1,none⟩=some v∧w1.frozen? ⟨p,0,none⟩=false∧w1.frozen? ⟨p,1,none⟩=false:=by
 have h:=(hb.block p (Array.getElem?_eq_some_iff.1 hg).1).trans hg
 exact ⟨(Array.getElem?_eq_some_iff.1 h).1,by simp [World.cell?,h],by simp [World.cell?,h],by simp [World.frozen?,h],by simp [World.frozen?,h]⟩
set_option maxHeartbeats 4000000 in
theorem rreckon_len (b o cap:Nat) (l:List Nd) (hl:RightL l) (h30:l.length≤30) (An:Option Addr) (cn:Nat) (N:List ByteArray) (Ac:Option Addr) (cc:Nat) (C:List (Int×Int)) (hlen:C.length=N.length) (hok:∀ c∈C,okC c):∀ i,i<l.length→∀ (w:World),NdsAt w b o l→NmV w An cn N→CelV w Ac cc C→missT N (treeOf l i)=false →
  Calls Tryz.prog 71 #[.slice (some ⟨b,o,none⟩) l.length cap,.int .i64 i,.slice An N.length cn,.slice Ac C.length cc] w fun e w'=>e=.returned (.agg #[.int .i64 (valT N C (treeOf l i)).1,.int .i64 (valT N C (treeOf l i)).2])∧Below w.heap.size w w':=by
 have HOk:Hid (∀ c∈C,okC c):=hok
 have HLen:Hid (C.length=N.length):=hlen
 clear hok hlen
 intro i
 induction i using Nat.strongRecOn with
 | _ i ih =>
  intro hi w hN hNm hCl hms
  have HI:Hid (∀ m,m<i→m<l.length→∀ (w:World),NdsAt w b o l→NmV w An cn N→CelV w Ac cc C→missT N (treeOf l m)=false →
   Calls Tryz.prog 71 #[.slice (some ⟨b,o,none⟩) l.length cap,.int .i64 m,.slice An N.length cn,.slice Ac C.length cc] w fun e w'=>e=.returned (.agg #[.int .i64 (valT N C (treeOf l m)).1,.int .i64 (valT N C (treeOf l m)).2])∧Below w.heap.size w w'):=ih
  clear ih
  have hg:=hl i hi
  have ho:=op_range hg
  obtain ⟨x0,x1,x2,x3,x4⟩:=hN.nd (k:=i) hi
  obtain ⟨x,hx⟩:∃ x,l.getD i noN=x:=⟨_,rfl⟩
  rw [hx] at x0 x1 x2 x3 x4 hg ho
  have hii:(i:Int)<(l.length:Int):=by omega
  have hli:(l.length:Int)≤30:=by omega
  have hbl:b<w.heap.size:=hN.1
  obtain ⟨op,nn,name,left,right⟩:=x
  simp only at x0 x1 x2 x3 x4 ho
  have HNd:Hid (NdsAt w b o l):=hN
  have HNm:Hid (NmV w An cn N):=hNm
  have HCl:Hid (CelV w Ac cc C):=hCl
  obtain ⟨W,hW⟩:∃ W,(w.alloc (.cells #[.int .i64 0,.int .i64 0] 48)).alloc (.cells #[.int .i64 op,.int .i64 nn,.string name,.int .i64 left,.int .i64 right] 181)=W:=⟨_,rfl⟩
  have HR:Hid (W.heap[w.heap.size]?=some (.cells #[.int .i64 0,.int .i64 0] 48 (0,0))):=by show _=_;rw [←hW];exact topF0 _ _ _
  have hX:W.heap[w.heap.size+1]?=some (.cells #[.int .i64 op,.int .i64 nn,.string name,.int .i64 left,.int .i64 right] 181 (0,0)):=by rw [←hW];exact topF1 _ _ _
  have HX:=hid_of hX
  have d0:W.cell? ⟨w.heap.size+1,0,none⟩=some (.int .i64 op):=by simp [World.cell?,hX]
  have d1:W.cell? ⟨w.heap.size+1,1,none⟩=some (.int .i64 nn):=by simp [World.cell?,hX]
  have d2:W.cell? ⟨w.heap.size+1,2,none⟩=some (.string name):=by simp [World.cell?,hX]
  have d3:W.cell? ⟨w.heap.size+1,3,none⟩=some (.int .i64 left):=by simp [World.cell?,hX]
  have HBW:Hid (Below w.heap.size w W):=by show Below w.heap.size w W;rw [←hW];go_grown
  clear hX
  by_cases h1:op=1
  ·subst h1
   have hP:valT N C (treeOf l i)=ofP nn:=by rw [tree_num (by rw [hx]),hx];rfl
   rw [hP]
   have hof:=rof_any nn
   clear hx hP hg ho hN hNm hCl hms
   go_enter Tryz.func71,Tryz.ntmps71
   go_wp2_with fail
   refine (hof _).mono ?_
   rintro e w1 ⟨rfl,hb1⟩
   obtain ⟨r1,r2,r3,rf0,rf1⟩:=box2 HR.out hb1
   have HB1:=hid_of (onB HBW.out hb1)
   clear hb1 hof hW d0 d1 d2 d3
   go_wp2_with fail
   refine bodyPost_ret (v:=.agg #[.int .i64 (ofP nn).1,.int .i64 (ofP nn).2]) (by simp [results,Tryz.results71,go_sem,r2,r3]) rfl ⟨rfl,?_⟩
   exact (HB1.out.setCell (Nat.le_refl _) _).setCell (Nat.le_refl _) _
  by_cases h2:op=2
  ·subst h2
   have hT:treeOf l i=.ref name:=by rw [tree_ref (by rw [hx]),hx]
   rw [hT] at hms ⊢
   have hw:0≤whereS N name:=by
    unfold missT refsT at hms
    simp at hms
    exact hms
   obtain ⟨j,hj,hjl,-⟩:∃ j:Nat,whereS N name=(j:Int)∧j<N.length∧N.getD j noS=name:=by
    rcases where_cases N name with ⟨hw',-⟩ | h
    ·omega
    ·exact h
   have hnm:=fun w' (hb:Below w.heap.size w w')=>rnamed_any An cn N name w' (hNm.later hb)
   rw [hj] at hnm
   have hlen:=HLen.out
   obtain ⟨-,-,hC3⟩:=hCl
   obtain ⟨b2,o2,rfl,hCA⟩:=hC3.resolve_left (fun e=>by rw [e] at hlen;simp at hlen;omega)
   obtain ⟨c,hc⟩:∃ c,C.getD j noC=c:=⟨_,rfl⟩
   have hV:valT N C (.ref name)=c:=by show refC N C name=c;unfold refC;rw [hj];exact hc
   rw [hV]
   have HCA:Hid (CelAt w b2 o2 C):=hCA
   have HJ:Hid (j<C.length):=by show j<C.length;omega
   have HCc:=hid_of hc
   have hjc:(j:Int)<(C.length:Int):=by omega
   have hsz:=hNm.2.1
   have hcl:(C.length:Int)<4611686018427387904:=by omega
   clear hx hT hg ho hN hNm hms hC3 hCA hV hc hj hw hlen
   go_enter Tryz.func71,Tryz.ntmps71
   go_wp2_with fail
   refine (hnm _ HBW.out).mono ?_
   rintro e w1 ⟨rfl,hb1⟩
   obtain ⟨r1,r2,r3,rf0,rf1⟩:=box2 HR.out hb1
   have HB1:=hid_of (onB HBW.out hb1)
   obtain ⟨c0,c1⟩:=(HCA.out.later HB1.out).2 j HJ.out
   rw [HCc.out] at c0 c1
   clear hb1 hnm hW d0 d1 d2 d3
   go_wp2_with fail
   refine bodyPost_ret (v:=.agg #[.int .i64 c.1,.int .i64 c.2]) (by simp [results,Tryz.results71,go_sem,r2,r3]) rfl ⟨rfl,?_⟩
   exact (HB1.out.setCell (Nat.le_refl _) _).setCell (Nat.le_refl _) _
  obtain ⟨a1,a2,a3,a4⟩:=nd_sides hg (show 2<op by omega)
  simp only at a1 a2 a3 a4
  obtain ⟨a,ha⟩:∃ a:Nat,left=a:=⟨left.toNat,by omega⟩
  obtain ⟨c,hc⟩:∃ c:Nat,right=c:=⟨right.toNat,by omega⟩
  subst ha hc
  have hT:treeOf l i=.bin op (treeOf l a) (treeOf l c):=by
   have:=tree_bin hl hi (by rw [hx];show 2<op;omega)
   rw [hx] at this
   simpa using this
  rw [hT] at hms ⊢
  obtain ⟨hma,hmc⟩:=miss_bin hms
  have hoa:=val_ok N HOk.out (treeOf l a)
  have hoc:=val_ok N HOk.out (treeOf l c)
  have HRa:=hid_of (fun w' (hb:Below w.heap.size w w')=>HI.out a (by omega) (by omega) w' (hN.later hb) (hNm.later hb) (hCl.later hb) hma)
  have HRc:=hid_of (fun w' (hb:Below w.heap.size w w')=>HI.out c (by omega) (by omega) w' (hN.later hb) (hNm.later hb) (hCl.later hb) hmc)
  have hV:valT N C (.bin op (treeOf l a) (treeOf l c))=opP op (valT N C (treeOf l a)) (valT N C (treeOf l c)):=rfl
  rw [hV]
  obtain ⟨u,hu⟩:∃ u,valT N C (treeOf l a)=u:=⟨_,rfl⟩
  obtain ⟨v,hv⟩:∃ v,valT N C (treeOf l c)=v:=⟨_,rfl⟩
  rw [hu] at hoa HRa ⊢
  rw [hv] at hoc HRc ⊢
  obtain ⟨p3,p4,p5,p6⟩:=rop_yes (o:=op) hoa hoc
  obtain ⟨t,ht⟩:∃ t,opP op u v=t:=⟨_,rfl⟩
  rw [ht] at p3 p4 p5 p6 ⊢
  unfold RefTo at p3 p4 p5 p6
  have hovc:op=3∨op=4∨op=5∨op=6:=by omega
  clear hx hT hg ho h1 h2 hN hNm hCl hms hma hmc hoa hoc hV hu hv ht HI a1 a2 a3 a4
  rcases hovc with rfl | rfl | rfl | rfl
  ·have hp:=p3 rfl
   clear p3 p4 p5 p6
   go_enter Tryz.func71,Tryz.ntmps71
   go_wp2_with fail
   refine (HRa.out _ HBW.out).mono ?_
   rintro e w1 ⟨rfl,hb1⟩
   have HB1:=hid_of hb1
   have HC1:=hid_of (onB HBW.out hb1)
   obtain ⟨V1,hV1⟩:∃ V1,w1.alloc (.cells #[.int .i64 u.1,.int .i64 u.2] 48)=V1:=⟨_,rfl⟩
   have hbV:Below w1.heap.size w1 V1:=by rw [←hV1];exact (Below.refl _ _).alloc (Nat.le_refl _) _
   have HV1:=hid_of (onB hb1 hbV)
   have HD1:=hid_of (onB HC1.out hbV)
   have hg1:V1.heap[w1.heap.size]?=some (.cells #[.int .i64 u.1,.int .i64 u.2] 48 (0,0)):=by rw [←hV1];exact heap_alloc_new _ _
   have G1:=hid_of hg1
   have hXv:=(HV1.out.block (w.heap.size+1) (Array.getElem?_eq_some_iff.1 HX.out).1).trans HX.out
   have k0:V1.cell? ⟨w.heap.size+1,0,none⟩=some (.int .i64 3):=by simp [World.cell?,hXv]
   have k4:V1.cell? ⟨w.heap.size+1,4,none⟩=some (.int .i64 (c:Int)):=by simp [World.cell?,hXv]
   have kl:=(Array.getElem?_eq_some_iff.1 hXv).1
   clear hb1 hbV hg1 hXv hW d0 d1 d2 d3
   go_wp2_with fail
   refine (HRc.out _ HD1.out).mono ?_
   rintro e w2 ⟨rfl,hb2⟩
   have HC2:=hid_of (onB HD1.out hb2)
   have HE2:=hid_of (onB HV1.out hb2)
   obtain ⟨V2,hV2⟩:∃ V2,w2.alloc (.cells #[.int .i64 v.1,.int .i64 v.2] 48)=V2:=⟨_,rfl⟩
   have hbV:Below w2.heap.size w2 V2:=by rw [←hV2];exact (Below.refl _ _).alloc (Nat.le_refl _) _
   have HD2:=hid_of (onB HC2.out hbV)
   have HF2:=hid_of (onB HE2.out hbV)
   obtain ⟨y1,y2,y3,-,-⟩:=box2 G1.out (onB hb2 hbV)
   have hg2:V2.heap[w2.heap.size]?=some (.cells #[.int .i64 v.1,.int .i64 v.2] 48 (0,0)):=by rw [←hV2];exact heap_alloc_new _ _
   obtain ⟨q1,q2,q3,-,-⟩:=box2 hg2 (Below.refl _ _)
   have hXv:=(HF2.out.block (w.heap.size+1) (Array.getElem?_eq_some_iff.1 HX.out).1).trans HX.out
   have k0':V2.cell? ⟨w.heap.size+1,0,none⟩=some (.int .i64 3):=by simp [World.cell?,hXv]
   have kl':=(Array.getElem?_eq_some_iff.1 hXv).1
   clear hb2 hbV hg2 hXv hV1 k0 k4 kl HRa HRc
   go_wp2_with fail
   refine (hp _).mono ?_
   rintro e w3 ⟨rfl,hb3⟩
   obtain ⟨r1,r2,r3,rf0,rf1⟩:=box2 HR.out (onB HF2.out hb3)
   have HB3:=hid_of (onB HD2.out hb3)
   clear hb3 hp hV2 k0' kl' y1 y2 y3 q1 q2 q3
   go_wp2_with fail
   refine bodyPost_ret (v:=.agg #[.int .i64 t.1,.int .i64 t.2]) (by simp [results,Tryz.results71,go_sem,r2,r3]) rfl ⟨rfl,?_⟩
   exact (HB3.out.setCell (Nat.le_refl _) _).setCell (Nat.le_refl _) _
  ·have hp:=p4 rfl
   clear p3 p4 p5 p6
   go_enter Tryz.func71,Tryz.ntmps71
   go_wp2_with fail
   refine (HRa.out _ HBW.out).mono ?_
   rintro e w1 ⟨rfl,hb1⟩
   have HB1:=hid_of hb1
   have HC1:=hid_of (onB HBW.out hb1)
   obtain ⟨V1,hV1⟩:∃ V1,w1.alloc (.cells #[.int .i64 u.1,.int .i64 u.2] 48)=V1:=⟨_,rfl⟩
   have hbV:Below w1.heap.size w1 V1:=by rw [←hV1];exact (Below.refl _ _).alloc (Nat.le_refl _) _
   have HV1:=hid_of (onB hb1 hbV)
   have HD1:=hid_of (onB HC1.out hbV)
   have hg1:V1.heap[w1.heap.size]?=some (.cells #[.int .i64 u.1,.int .i64 u.2] 48 (0,0)):=by rw [←hV1];exact heap_alloc_new _ _
   have G1:=hid_of hg1
   have hXv:=(HV1.out.block (w.heap.size+1) (Array.getElem?_eq_some_iff.1 HX.out).1).trans HX.out
   have k0:V1.cell? ⟨w.heap.size+1,0,none⟩=some (.int .i64 4):=by simp [World.cell?,hXv]
   have k4:V1.cell? ⟨w.heap.size+1,4,none⟩=some (.int .i64 (c:Int)):=by simp [World.cell?,hXv]
   have kl:=(Array.getElem?_eq_some_iff.1 hXv).1
   clear hb1 hbV hg1 hXv hW d0 d1 d2 d3
   go_wp2_with fail
   refine (HRc.out _ HD1.out).mono ?_
   rintro e w2 ⟨rfl,hb2⟩
   have HC2:=hid_of (onB HD1.out hb2)
   have HE2:=hid_of (onB HV1.out hb2)
   obtain ⟨V2,hV2⟩:∃ V2,w2.alloc (.cells #[.int .i64 v.1,.int .i64 v.2] 48)=V2:=⟨_,rfl⟩
   have hbV:Below w2.heap.size w2 V2:=by rw [←hV2];exact (Below.refl _ _).alloc (Nat.le_refl _) _
   have HD2:=hid_of (onB HC2.out hbV)
   have HF2:=hid_of (onB HE2.out hbV)
   obtain ⟨y1,y2,y3,-,-⟩:=box2 G1.out (onB hb2 hbV)
   have hg2:V2.heap[w2.heap.size]?=some (.cells #[.int .i64 v.1,.int .i64 v.2] 48 (0,0)):=by rw [←hV2];exact heap_alloc_new _ _
   obtain ⟨q1,q2,q3,-,-⟩:=box2 hg2 (Below.refl _ _)
   have hXv:=(HF2.out.block (w.heap.size+1) (Array.getElem?_eq_some_iff.1 HX.out).1).trans HX.out
   have k0':V2.cell? ⟨w.heap.size+1,0,none⟩=some (.int .i64 4):=by simp [World.cell?,hXv]
   have kl':=(Array.getElem?_eq_some_iff.1 hXv).1
   clear hb2 hbV hg2 hXv hV1 k0 k4 kl HRa HRc
   go_wp2_with fail
   refine (hp _).mono ?_
   rintro e w3 ⟨rfl,hb3⟩
   obtain ⟨r1,r2,r3,rf0,rf1⟩:=box2 HR.out (onB HF2.out hb3)
   have HB3:=hid_of (onB HD2.out hb3)
   clear hb3 hp hV2 k0' kl' y1 y2 y3 q1 q2 q3
   go_wp2_with fail
   refine bodyPost_ret (v:=.agg #[.int .i64 t.1,.int .i64 t.2]) (by simp [results,Tryz.results71,go_sem,r2,r3]) rfl ⟨rfl,?_⟩
   exact (HB3.out.setCell (Nat.le_refl _) _).setCell (Nat.le_refl _) _
  ·have hp:=p5 rfl
   clear p3 p4 p5 p6
   go_enter Tryz.func71,Tryz.ntmps71
   go_wp2_with fail
   refine (HRa.out _ HBW.out).mono ?_
   rintro e w1 ⟨rfl,hb1⟩
   have HB1:=hid_of hb1
   have HC1:=hid_of (onB HBW.out hb1)
   obtain ⟨V1,hV1⟩:∃ V1,w1.alloc (.cells #[.int .i64 u.1,.int .i64 u.2] 48)=V1:=⟨_,rfl⟩
   have hbV:Below w1.heap.size w1 V1:=by rw [←hV1];exact (Below.refl _ _).alloc (Nat.le_refl _) _
   have HV1:=hid_of (onB hb1 hbV)
   have HD1:=hid_of (onB HC1.out hbV)
   have hg1:V1.heap[w1.heap.size]?=some (.cells #[.int .i64 u.1,.int .i64 u.2] 48 (0,0)):=by rw [←hV1];exact heap_alloc_new _ _
   have G1:=hid_of hg1
   have hXv:=(HV1.out.block (w.heap.size+1) (Array.getElem?_eq_some_iff.1 HX.out).1).trans HX.out
   have k0:V1.cell? ⟨w.heap.size+1,0,none⟩=some (.int .i64 5):=by simp [World.cell?,hXv]
   have k4:V1.cell? ⟨w.heap.size+1,4,none⟩=some (.int .i64 (c:Int)):=by simp [World.cell?,hXv]
   have kl:=(Array.getElem?_eq_some_iff.1 hXv).1
   clear hb1 hbV hg1 hXv hW d0 d1 d2 d3
   go_wp2_with fail
   refine (HRc.out _ HD1.out).mono ?_
   rintro e w2 ⟨rfl,hb2⟩
   have HC2:=hid_of (onB HD1.out hb2)
   have HE2:=hid_of (onB HV1.out hb2)
   obtain ⟨V2,hV2⟩:∃ V2,w2.alloc (.cells #[.int .i64 v.1,.int .i64 v.2] 48)=V2:=⟨_,rfl⟩
   have hbV:Below w2.heap.size w2 V2:=by rw [←hV2];exact (Below.refl _ _).alloc (Nat.le_refl _) _
   have HD2:=hid_of (onB HC2.out hbV)
   have HF2:=hid_of (onB HE2.out hbV)
   obtain ⟨y1,y2,y3,-,-⟩:=box2 G1.out (onB hb2 hbV)
   have hg2:V2.heap[w2.heap.size]?=some (.cells #[.int .i64 v.1,.int .i64 v.2] 48 (0,0)):=by rw [←hV2];exact heap_alloc_new _ _
   obtain ⟨q1,q2,q3,-,-⟩:=box2 hg2 (Below.refl _ _)
   have hXv:=(HF2.out.block (w.heap.size+1) (Array.getElem?_eq_some_iff.1 HX.out).1).trans HX.out
   have k0':V2.cell? ⟨w.heap.size+1,0,none⟩=some (.int .i64 5):=by simp [World.cell?,hXv]
   have kl':=(Array.getElem?_eq_some_iff.1 hXv).1
   clear hb2 hbV hg2 hXv hV1 k0 k4 kl HRa HRc
   go_wp2_with fail
   refine (hp _).mono ?_
   rintro e w3 ⟨rfl,hb3⟩
   obtain ⟨r1,r2,r3,rf0,rf1⟩:=box2 HR.out (onB HF2.out hb3)
   have HB3:=hid_of (onB HD2.out hb3)
   clear hb3 hp hV2 k0' kl' y1 y2 y3 q1 q2 q3
   go_wp2_with fail
   refine bodyPost_ret (v:=.agg #[.int .i64 t.1,.int .i64 t.2]) (by simp [results,Tryz.results71,go_sem,r2,r3]) rfl ⟨rfl,?_⟩
   exact (HB3.out.setCell (Nat.le_refl _) _).setCell (Nat.le_refl _) _
  ·have hp:=p6 rfl
   clear p3 p4 p5 p6
   go_enter Tryz.func71,Tryz.ntmps71
   go_wp2_with fail
   refine (HRa.out _ HBW.out).mono ?_
   rintro e w1 ⟨rfl,hb1⟩
   have HB1:=hid_of hb1
   have HC1:=hid_of (onB HBW.out hb1)
   obtain ⟨V1,hV1⟩:∃ V1,w1.alloc (.cells #[.int .i64 u.1,.int .i64 u.2] 48)=V1:=⟨_,rfl⟩
   have hbV:Below w1.heap.size w1 V1:=by rw [←hV1];exact (Below.refl _ _).alloc (Nat.le_refl _) _
   have HV1:=hid_of (onB hb1 hbV)
   have HD1:=hid_of (onB HC1.out hbV)
   have hg1:V1.heap[w1.heap.size]?=some (.cells #[.int .i64 u.1,.int .i64 u.2] 48 (0,0)):=by rw [←hV1];exact heap_alloc_new _ _
   have G1:=hid_of hg1
   have hXv:=(HV1.out.block (w.heap.size+1) (Array.getElem?_eq_some_iff.1 HX.out).1).trans HX.out
   have k0:V1.cell? ⟨w.heap.size+1,0,none⟩=some (.int .i64 6):=by simp [World.cell?,hXv]
   have k4:V1.cell? ⟨w.heap.size+1,4,none⟩=some (.int .i64 (c:Int)):=by simp [World.cell?,hXv]
   have kl:=(Array.getElem?_eq_some_iff.1 hXv).1
   clear hb1 hbV hg1 hXv hW d0 d1 d2 d3
   go_wp2_with fail
   refine (HRc.out _ HD1.out).mono ?_
   rintro e w2 ⟨rfl,hb2⟩
   have HC2:=hid_of (onB HD1.out hb2)
   have HE2:=hid_of (onB HV1.out hb2)
   obtain ⟨V2,hV2⟩:∃ V2,w2.alloc (.cells #[.int .i64 v.1,.int .i64 v.2] 48)=V2:=⟨_,rfl⟩
   have hbV:Below w2.heap.size w2 V2:=by rw [←hV2];exact (Below.refl _ _).alloc (Nat.le_refl _) _
   have HD2:=hid_of (onB HC2.out hbV)
   have HF2:=hid_of (onB HE2.out hbV)
   obtain ⟨y1,y2,y3,-,-⟩:=box2 G1.out (onB hb2 hbV)
   have hg2:V2.heap[w2.heap.size]?=some (.cells #[.int .i64 v.1,.int .i64 v.2] 48 (0,0)):=by rw [←hV2];exact heap_alloc_new _ _
   obtain ⟨q1,q2,q3,-,-⟩:=box2 hg2 (Below.refl _ _)
   have hXv:=(HF2.out.block (w.heap.size+1) (Array.getElem?_eq_some_iff.1 HX.out).1).trans HX.out
   have k0':V2.cell? ⟨w.heap.size+1,0,none⟩=some (.int .i64 6):=by simp [World.cell?,hXv]
   have kl':=(Array.getElem?_eq_some_iff.1 hXv).1
   clear hb2 hbV hg2 hXv hV1 k0 k4 kl HRa HRc
   go_wp2_with fail
   refine (hp _).mono ?_
   rintro e w3 ⟨rfl,hb3⟩
   obtain ⟨r1,r2,r3,rf0,rf1⟩:=box2 HR.out (onB HF2.out hb3)
   have HB3:=hid_of (onB HD2.out hb3)
   clear hb3 hp hV2 k0' kl' y1 y2 y3 q1 q2 q3
   go_wp2_with fail
   refine bodyPost_ret (v:=.agg #[.int .i64 t.1,.int .i64 t.2]) (by simp [results,Tryz.results71,go_sem,r2,r3]) rfl ⟨rfl,?_⟩
   exact (HB3.out.setCell (Nat.le_refl _) _).setCell (Nat.le_refl _) _
set_option maxHeartbeats 4000000 in
theorem stell_leaf (A0:Option Addr) (cap n:Nat) (D:Nat→Dm) (A:Nat→Option Addr) (C:Nat→Nat) (Ae:Option Addr) (ce:Nat) (xs:List EnL) (Ap:Option Addr) (cp:Nat) (L:List Int) (vc:Value) (w:World) (hI:InO D n L) (hM:DimsV w A0 cap n D A C) (hP:PlAt w Ap cp L) (hx:xs.length≤3000) (hE:EnsV w Ae ce xs) (hS:Short xs L) (hb:byTo D L n<0) :
  Calls Tryz.prog 37 #[.agg #[.slice A0 n cap],.slice Ae xs.length ce,.slice Ap L.length cp,vc] w fun e w'=>e=.returned (.agg #[.int .i64 (getE (lE xs) L).1,.int .i64 (getE (lE xs) L).2])∧Below w.heap.size w w':=by
 have hb1:byTo D L n = -1:=by
  rcases by_in D L n with h | ⟨b,h1,_⟩
  ·exact h
  ·omega
 obtain ⟨W,hW⟩:∃ W,(w.alloc (.cells #[.slice A0 n cap] 42)).alloc (.cells #[.int .i64 0,.int .i64 0] 48)=W:=⟨_,rfl⟩
 have HBW:Hid (Below w.heap.size w W):=by show Below w.heap.size w W;rw [←hW];go_grown
 have HR:Hid (W.heap[w.heap.size+1]?=some (.cells #[.int .i64 0,.int .i64 0] 48 (0,0))):=by show _=_;rw [←hW];exact topF1 _ _ _
 have hO:W.heap[w.heap.size]?=some (.cells #[.slice A0 n cap] 42 (0,0)):=by rw [←hW];exact topF0 _ _ _
 have d0:W.cell? ⟨w.heap.size,0,none⟩=some (.slice A0 n cap):=by simp [World.cell?,hO]
 have hsz:w.heap.size<W.heap.size:=(Array.getElem?_eq_some_iff.1 hO).1
 have hby:=sby_any A0 cap n D A C Ap cp L W hI (hM.later HBW.out) (hP.later HBW.out)
 have HIn:Hid (∀ w',Below w.heap.size w w'→Calls Tryz.prog 66 #[.slice Ae xs.length ce,.slice Ap L.length cp] w' fun e w''=>e=.returned (.agg #[.int .i64 (getE (lE xs) L).1,.int .i64 (getE (lE xs) L).2])∧Below w'.heap.size w' w''):=fun w' hB=>rinput_any Ae ce xs Ap cp L w' hx (hE.later hB) hS (hP.later hB)
 rw [hb1] at hby
 generalize getE (lE xs) L=c at HIn ⊢
 clear hI hM hP hE hS hb hb1 hx hO
 go_enter Tryz.func37,Tryz.ntmps37
 go_wp2_with fail
 refine hby.mono ?_
 rintro e w1 ⟨rfl,hb1⟩
 have HB1:Hid (Below W.heap.size W w1):=hb1
 have hin:=HIn.out w1 (onB HBW.out hb1)
 clear hb1 hby d0 hW
 go_wp2_with fail
 refine hin.mono ?_
 rintro e w2 ⟨rfl,hb2⟩
 obtain ⟨r1,r2,r3,rf0,rf1⟩:=box2 HR.out (onB HB1.out hb2)
 have HB2:=hid_of (onB HBW.out (onB HB1.out hb2))
 clear hb2 hin
 go_wp2_with fail
 refine bodyPost_ret (v:=.agg #[.int .i64 c.1,.int .i64 c.2]) (by simp [results,Tryz.results37,go_sem,r2,r3]) rfl ⟨rfl,?_⟩
 exact (HB2.out.setCell (Nat.le_succ _) _).setCell (Nat.le_succ _) _
end Go.Proofs.YtigkeokacagabafGreatDoor
namespace Go.Proofs.YtigkeokacagabafGreatDoor
open Go Go.ChangeShapes Go.WideShapes Go.ChangeAt Go.RowKit
set_option maxRecDepth 20000
set_option maxHeartbeats 2000000 in
theorem rparts_new (d:Dm) (b o cap:Nat) (i:Int) (w:World) (hn:d.n≤12) (hM:MemsAt w b o d.n d.mem):Calls Tryz.prog 72 #[.agg #[.string d.name,.int .i64 d.solve,.slice (some ⟨b,o,none⟩) d.n cap],.int .i64 i] w fun e w'=>(∃ A c,e=.returned (.slice A (partsOf d.mem d.n i).length c)∧IntsAt w' A c (partsOf d.mem d.n i)∧∀ b o,A=some ⟨b,o,none⟩→w.heap.size≤b)∧Below w.heap.size w w':=by
 obtain ⟨i0,hi0,hz0,hz1,hz2⟩:=info_parts Tryz.infoInt
 have hS:=ownDim_size w d (some ⟨b,o,none⟩) cap 24
 have hB0:=ownDim_below w d (some ⟨b,o,none⟩) cap 24
 have hA:=(ownDim_at w d (some ⟨b,o,none⟩) cap 24).2.2
 obtain ⟨W,hW⟩:∃ W,W=ownDim w d (some ⟨b,o,none⟩) cap 24:=⟨_,rfl⟩
 rw [←hW] at hS hB0 hA
 have HW:Hid (W=ownDim w d (some ⟨b,o,none⟩) cap 24):=hW
 have HB0:Hid (Below w.heap.size w W):=hB0
 have HM:Hid (MemsAt W b o d.n d.mem):=hM.later hB0
 have HA:Hid (W.cell? ⟨w.heap.size,2,none⟩=some (.slice (some ⟨b,o,none⟩) d.n cap)):=hA
 have hsz:w.heap.size<W.heap.size:=by omega
 have hn':(d.n:Int)≤12:=by omega
 obtain ⟨p,hp⟩:∃ p:Nat→Bool,p=partB d.mem i:=⟨_,rfl⟩
 have HP:Hid (p=partB d.mem i):=hp
 unfold partsOf
 rw [←hp]
 clear hM hW hB0 hA hS hp
 go_enter Tryz.func72,Tryz.ntmps72
 go_wp2_with fail
 go_loopg [5,6] d.n (fun g s5 s6 wr => ∃ (k:Nat),k≤d.n∧g=d.n-k∧s6=.int .i64 k∧wr.ownsRow W.heap.size 3 1 s5 (selTo p k).length (mapI (selTo p k))∧Below W.heap.size W wr)
 case atStart=>exact ⟨0,Nat.zero_le _,rfl,rfl,World.ownsRow_nil _ _ _ _,by rw [HW.out];exact Below.refl _ _⟩
 case round =>
  obtain ⟨k,hk,rfl,rfl,hown,hBw⟩:=hrel
  have HWr:Hid (Below W.heap.size W wr):=hBw
  have HO:Hid (wr.ownsRow W.heap.size 3 1 _ (selTo p k).length (mapI (selTo p k))):=hown
  have c2:wr.cell? ⟨w.heap.size,2,none⟩=some (.slice (some ⟨b,o,none⟩) d.n cap):=(hBw.cell (p:=⟨w.heap.size,2,none⟩) hsz).trans HA.out
  have hszr:=hBw.size
  by_cases hlt:k<d.n
  ·have hki:(k:Int)<(d.n:Int):=by omega
   obtain ⟨-,h1,-,-⟩:=(HM.out.later hBw).2 k hlt
   have hlen:=selTo_len p k
   have hpk:p k=((d.mem k).parent == i):=by rw [HP.out];rfl
   clear hBw
   cases hb:p k
   ·have HK:Hid (p k=false):=hb
    rw [hb] at hpk
    have hpe:((d.mem k).parent == i)=false:=hpk.symm
    clear hb hpk hown
    go_wp2_with fail
    go_roundg (d.n-(k+1))
    case measure=>omega
    case rel=>exact ⟨k+1,by omega,rfl,by go_num,by rw [selTo_miss HK.out];exact HO.out,HWr.out⟩
   ·have HK:Hid (p k=true):=hb
    rw [hb] at hpk
    have hpe:((d.mem k).parent == i)=true:=hpk.symm
    clear hb hpk
    go_wp2_with (at_builtin;refine wpList_append_own _ rfl _ _ 27 rfl W.heap.size 3 i0 (.int .i64 0) 1 8 Tryz.underlying27 hi0 hz0 hz1 hz2 rfl (by decide) _ _ _ rfl (hown.alloc _) ⟨wr.heap.size,0,none⟩ 1 1 [.int .i64 k] rfl rfl one_cell one_one (by unfold maxLen;omega) (by omega) (by simp;omega) ?_)
    intro v' w2 hown' hgrow _
    have HB2:Hid (Below W.heap.size W w2):=grown_own HWr.out hown hgrow
    have HO2:Hid (w2.ownsRow W.heap.size 3 1 v' (selTo p (k+1)).length (mapI (selTo p (k+1)))):=by
     show World.ownsRow ..
     rw [selTo_hit HK.out,mapI_snoc,List.length_append];exact hown'
    clear hown' hgrow hown c2
    go_wp2_with fail
    go_roundg (d.n-(k+1))
    case measure=>omega
    case rel=>exact ⟨k+1,by omega,rfl,by go_num,HO2.out,HB2.out⟩
  ·have hke:k=d.n:=by omega
   subst hke
   clear hBw hown
   go_wp2_with fail
   go_ret
   obtain ⟨A,c,h1,h2,h3⟩:=ints_new HO.out
   exact ⟨⟨A,c,by rw [←h1];rfl,h2,fun b o e=>Nat.le_trans HB0.out.size (h3 b o e)⟩,onB HB0.out HWr.out⟩
end Go.Proofs.YtigkeokacagabafGreatDoor
