/-
  What tallylaw4.HallCounts answers, called in whatever memory, of a hall whatever it is made of, if its calls tell what they should: true.
-/
import Derived.Test.YtfgegmpoejilnaaGreatDoorJGBJ
import Derived.Test.YtfgegmpoejilnaaGreatDoorJGBT
namespace Go.Proofs.YtfgegmpoejilnaaGreatDoor
open Go.ChangeShapes Go.WideShapes Go.ChangeAt Go.RowKit
set_option maxRecDepth 20000
def hcX (w:World) (a b x:Int):List EdL:=[⟨⟨[a,b],x,false⟩,some ⟨w.heap.size,0,none⟩,2⟩]
def hcW (w:World) (a b x:Int):World:=(w.alloc (.cells #[.int .i64 a,.int .i64 b] 3)).alloc (.cells #[.slice (some ⟨w.heap.size,0,none⟩) 2 2,.int .i64 x,.bool false] 41)
theorem hcW_below (w:World) (a b x:Int):Below w.heap.size w (hcW w a b x):=by unfold hcW;go_grown
theorem hcW_eds (w:World) (a b x:Int):EdsV (hcW w a b x) (some ⟨w.heap.size+1,0,none⟩) 1 (hcX w a b x):=by
 have k3:IntB (hcW w a b x) w.heap.size [a,b]:=by unfold IntB hcW;exact bkO (bkN rfl)
 have k4:(hcW w a b x).heap[w.heap.size+1]?=some (.cells #[.slice (some ⟨w.heap.size,0,none⟩) 2 2,.int .i64 x,.bool false] 41 (0,0)):=by unfold hcW;exact bkN (by simp)
 refine ⟨Nat.le_refl _,by decide,Or.inr ⟨w.heap.size+1,0,rfl,(Array.getElem?_eq_some_iff.1 k4).1,fun j hj=>?_⟩⟩
 have hj0:j=0:=by have:j<1:=hj;omega
 subst hj0
 exact ⟨(Lib.cell_of_heap k4 0).trans rfl,(Lib.cell_of_heap k4 1).trans rfl,(Lib.cell_of_heap k4 2).trans rfl,k3.pl⟩
theorem arr_zero:Tryz.zeroCells52=((List.range 100).map fun _=>Value.int .i64 0).toArray:=by kernel_rfl
theorem arr_made (w:World):ValB (w.alloc (.cells Tryz.zeroCells52 52)) w.heap.size 100 52 fun _=>.int .i64 0:=by
 unfold ValB
 rw [←arr_zero]
 exact heap_alloc_new w _
theorem HCs.later {HV:World→Nat→(Nat→Prop)→(Nat→Dm)→Nat→List En→Prop} (hC:HallC HV) {w wr w':World} {h ba m:Nat} {s:Int} (hH:HCs HV w wr h ba m s) (hB:Below wr.heap.size wr w'):HCs HV w w' h ba m s:=by
 obtain ⟨S,l,f,h1,h2,h3,h4,h5,h6,h7,h8,h9⟩:=hH
 exact ⟨S,l,f,hC.later h1 hB,h2,h3,h4,h5,h6.same (hB.block _ h6.lt),h7,h8,onB h9 hB⟩
theorem keepC2 {w1 w':World} {b:Nat} {u v:Value} (h:b<w1.heap.size∧w1.cell? ⟨b,0,none⟩=some u∧w1.cell? ⟨b,1,none⟩=some v) (hB:Below w1.heap.size w1 w'):Below w1.heap.size w1 w'∧w'.cell? ⟨b,0,none⟩=some u∧w'.cell? ⟨b,1,none⟩=some v:=⟨hB,(hB.cell (p:=⟨b,0,none⟩) h.1).trans h.2.1,(hB.cell (p:=⟨b,1,none⟩) h.1).trans h.2.2⟩
set_option maxHeartbeats 16000000 in
theorem hcounts_law {HV:World→Nat→(Nat→Prop)→(Nat→Dm)→Nat→List En→Prop} (hC:HallC HV) (hKc:HallK HV) (n:Int) (A1:Option Addr) (c1:Nat) (L:List Int) (w:World) (hL:PlAt w A1 c1 L) :
  Calls Tryz.prog 4 #[.int .i64 n,.slice A1 L.length c1] w fun e w'=>e=.returned (.bool true)∧Below w.heap.size w w':=by
 by_cases h0:n<1
 ·clear hL hC hKc
  go_enter Tryz.func4,Tryz.ntmps4
  go_wp2_with fail
  go_ret
  exact ⟨rfl,by go_grown⟩
 by_cases h9:9<n
 ·clear hL hC hKc
  go_enter Tryz.func4,Tryz.ntmps4
  go_wp2_with fail
  go_ret
  exact ⟨rfl,by go_grown⟩
 obtain ⟨m,rfl⟩:∃ m:Nat,n=(m:Int):=⟨n.toNat,by omega⟩
 have hm1:1≤m:=by omega
 have hm9:m≤9:=by omega
 have hsq:=square_any m w (by omega)
 have HC:=hid_of hC
 have HKc:=hid_of hKc
 have HLp:=hid_of hL
 obtain ⟨ll,hll⟩:∃ ll,L.length=ll:=⟨_,rfl⟩
 have HLl:=hid_of hll
 rw [hll]
 have Hm1:=hid_of hm1
 have Hm9:=hid_of hm9
 clear hC hKc hL hll hm1 hm9
 go_enter Tryz.func4,Tryz.ntmps4
 go_wp2_with fail
 refine hsq.mono ?_
 rintro e w1 ⟨⟨A0,A,C,rfl,hD⟩,hb1⟩
 have hnw:=HC.out.new A0 2 2 (squareD m) A C w1 (sq_cube Hm9.out).1 hD
 have HB1:=hid_of hb1
 clear hsq hD hb1
 go_wp2_with fail
 refine hnw.mono ?_
 rintro e w2 ⟨⟨h,S,rfl,hh,hS⟩,hb2⟩
 have HB2:Hid (Below w.heap.size w w2):=onB HB1.out hb2
 have HH:=hid_of hh
 have HS:Hid (∀ b,S b→w.heap.size≤b):=fun b hb=>Nat.le_trans HB1.out.size (hS b hb)
 clear hnw hh hS hb2
 go_wp2_with fail
 obtain ⟨ba,hba⟩:∃ ba,w2.heap.size=ba:=⟨_,rfl⟩
 have HK0:Hid (HCs HV w (w2.alloc (.cells Tryz.zeroCells52 52)) h ba m 0):=by
  have hb3:Below w2.heap.size w2 (w2.alloc (.cells Tryz.zeroCells52 52)):=by go_grown
  refine ⟨S,[],fun _=>0,HC.out.later HH.out hb3,CorS.first Hm9.out,HS.out,fun e=>?_,?_,?_,by omega,fun _=>⟨Int.le_refl _,show (0:Int)≤1000000 by decide⟩,onB HB2.out hb3⟩
  ·have:=HC.out.inS HH.out _ e
   omega
  ·rw [←hba];exact HB2.out.size
  ·rw [←hba];exact arr_made w2
 rw [hba]
 clear hba
 go_loopg [7,9] ll (fun gg s7 s9 wr => ∃ (k:Nat) (s:Int),k≤ll∧gg=ll-k∧s9=.int .i64 k∧s7=.int .i64 s∧Hid (HCs HV w wr h ba m s))
 case atStart=>exact ⟨0,0,Nat.zero_le _,rfl,rfl,rfl,HK0⟩
 case round =>
  obtain ⟨k,s,hk,rfl,rfl,rfl,HK⟩:=hrel
  by_cases hlt:k<ll
  case neg =>
   have hke:k=ll:=by omega
   subst hke
   have HBr:Hid (Below w.heap.size w wr):=by obtain ⟨-,-,-,-,-,-,-,-,-,-,-,h⟩:=HK.out;exact h
   go_wp2_with fail
   go_ret
   exact ⟨rfl,HBr.out⟩
  case pos =>
  have hki:(k:Int)<(ll:Int):=by omega
  by_cases h40:k<40
  case neg =>
   have hk40 : ¬ (k:Int)<40:=by omega
   have HBr:Hid (Below w.heap.size w wr):=by obtain ⟨-,-,-,-,-,-,-,-,-,-,-,h⟩:=HK.out;exact h
   go_wp2_with fail
   go_ret
   exact ⟨rfl,HBr.out⟩
  case pos =>
  have hk40:(k:Int)<40:=by omega
  obtain ⟨S0,l,f,hh,hcor,hS0,hna,hba,hva,hsb,hfb,hBr⟩:=HK.out
  obtain ⟨b1,o1,hA1,hb1,cx⟩:∃ b1 o1,A1=some ⟨b1,o1,none⟩∧b1<w.heap.size∧w.cell? ⟨b1,o1+k,none⟩=some (.int .i64 (L.getD k 0)):=by
   obtain ⟨-,h' | ⟨b,o,h1,h2,h3⟩⟩:=HLp.out
   ·have:=HLl.out;rw [h'] at this;simp at this;omega
   ·exact ⟨b,o,h1,h2,h3 k (by rw [HLl.out];exact hlt)⟩
  subst hA1
  obtain ⟨x,hx⟩:∃ x,L.getD k 0=x:=⟨_,rfl⟩
  rw [hx] at cx
  have HX:Hid (∀ w',Below w.heap.size w w'→w'.cell? ⟨b1,o1+k,none⟩=some (.int .i64 x)∧b1<w'.heap.size):=fun w' hB=>⟨(hB.cell (p:=⟨b1,o1+k,none⟩) hb1).trans cx,Nat.lt_of_lt_of_le hb1 hB.size⟩
  obtain ⟨cx',hb1'⟩:=HX.out wr hBr
  have hlc:(ll:Int)≤(c1:Int):=by have:=HLp.out.1;rw [HLl.out] at this;omega
  clear cx hb1 hx
  by_cases hx0:x<0
  case pos =>
   clear hh hcor hS0 hna hba hva hsb hfb hBr
   go_wp2_with fail
   go_roundg (ll-(k+1))
   case measure=>omega
   case rel=>exact ⟨k+1,s,by omega,rfl,by go_num,rfl,HK⟩
  case neg =>
  by_cases hx6:1000000<x
  case pos =>
   clear hh hcor hS0 hna hba hva hsb hfb hBr
   go_wp2_with fail
   go_roundg (ll-(k+1))
   case measure=>omega
   case rel=>exact ⟨k+1,s,by omega,rfl,by go_num,rfl,HK⟩
  case neg =>
  obtain ⟨xn,rfl⟩:∃ xn:Nat,x=(xn:Int):=⟨x.toNat,by omega⟩
  obtain ⟨mm,hmm⟩:∃ mm,m*m=mm:=⟨_,rfl⟩
  have hmI:(m:Int)≤9:=by have:=Hm9.out;omega
  have hm0:1≤m:=Hm1.out
  have hmm1:1≤mm:=by rw [←hmm];exact Nat.mul_le_mul hm0 hm0
  have hmm81:mm≤81:=by rw [←hmm];exact Nat.mul_le_mul Hm9.out Hm9.out
  obtain ⟨kk,hkk⟩:∃ kk,xn % mm=kk:=⟨_,rfl⟩
  have hkm:kk<mm:=by rw [←hkk];exact Nat.mod_lt _ hmm1
  obtain ⟨q,hq⟩:∃ q:Nat,kk / m=q:=⟨_,rfl⟩
  obtain ⟨r,hr⟩:∃ r:Nat,kk % m=r:=⟨_,rfl⟩
  have hq81:q≤81:=by rw [←hq];exact Nat.le_trans (Nat.div_le_self _ _) (by omega)
  have hr81:r≤81:=by rw [←hr];exact Nat.le_trans (Nat.mod_le _ _) (by omega)
  have hwm:IntKind.i64.wrap ((m:Int)*(m:Int))=(mm:Int):=by
   rw [show (m:Int)*(m:Int)=(mm:Int) by rw [←hmm];exact (Int.natCast_mul _ _).symm]
   exact IntWalk.i64_in _ (by omega)
  have hrm:((xn:Int)).tmod (mm:Int)=(kk:Int):=by rw [←hkk];rfl
  have hwk:IntKind.i64.wrap (kk:Int)=(kk:Int):=IntWalk.i64_in _ (by omega)
  have hqi:(kk:Int) / (m:Int)=(q:Int):=by rw [←hq];exact (Int.natCast_ediv _ _).symm
  have hri:((kk:Int)).tmod (m:Int)=(r:Int):=by rw [←hr];rfl
  have hwq:IntKind.i64.wrap (q:Int)=(q:Int):=IntWalk.i64_in _ (by omega)
  have hwr:IntKind.i64.wrap (r:Int)=(r:Int):=IntWalk.i64_in _ (by omega)
  have hwq1:IntKind.i64.wrap (1+(q:Int))=1+(q:Int):=IntWalk.i64_in _ (by omega)
  have hwr1:IntKind.i64.wrap (1+(r:Int))=1+(r:Int):=IntWalk.i64_in _ (by omega)
  have hmz : ¬ m=0:=by omega
  have hmmz : ¬ mm=0:=by omega
  have HP:Hid (cornP m kk=[1+(q:Int),1+(r:Int)]):=by
   show _=_
   unfold cornP
   rw [hq,hr,show ((1+q:Nat):Int)=1+(q:Int) by omega,show ((1+r:Nat):Int)=1+(r:Int) by omega]
  have hxb:(0:Int)≤(xn:Int)∧(xn:Int)≤1000000:=by omega
  have hkmm:kk<m*m:=by rw [hmm];exact hkm
  obtain ⟨d1,d2,d3⟩:=corn_do hm0 Hm9.out hkmm hxb hcor.ens
  obtain ⟨n1,n2,n3,n4⟩:=hcor.next hm0 Hm9.out hkmm hxb
  have hfk:=hfb kk
  obtain ⟨fk,hfke⟩:∃ fk,f kk=fk:=⟨_,rfl⟩
  rw [hfke] at hfk n1 n2 n3 n4
  have hw1:IntKind.i64.wrap (s-fk)=s-fk:=IntWalk.i64_in _ (by omega)
  have hw2:IntKind.i64.wrap (s-fk+(xn:Int))=s-fk+(xn:Int):=IntWalk.i64_in _ (by omega)
  have hWs:(hcW wr (1+(q:Int)) (1+(r:Int)) (xn:Int)).heap.size=wr.heap.size+2:=by unfold hcW;simp
  have hbW0:Below wr.heap.size wr (hcW wr (1+(q:Int)) (1+(r:Int)) (xn:Int)):=hcW_below _ _ _ _
  have HAf:Hid (∀ w5 w3:World,Below wr.heap.size wr w5→w5.heap.size=wr.heap.size+2→∀ S',HV w3 h S' (squareD m) 2 (setL l (cornP m kk) (xn:Int))→(∀ b,S' b→S0 b∨w5.heap.size≤b)→Kept w5.heap.size S0 w5 w3→w3.cell? ⟨ba,kk,none⟩=some (.int .i64 fk)∧w3.frozen? ⟨ba,kk,none⟩=false∧ba<w3.heap.size∧Below w.heap.size w w3∧∀ w4:World,Below w3.heap.size w3 w4→HCs HV w (w4.setCell ⟨ba,kk,none⟩ (.int .i64 (xn:Int))) h ba m (s-fk+(xn:Int))∧∃ S'',HV (w4.setCell ⟨ba,kk,none⟩ (.int .i64 (xn:Int))) h S'' (squareD m) 2 (setL l (cornP m kk) (xn:Int))):=fun w5 w3 hbW hsz S' h3 hS3 hk3=>by
   have lta:=hva.lt
   have hv3:ValB w3 ba 100 52 (fun j=>.int .i64 (f j)):=hva.same ((hk3.block ba (by omega) hna).trans (hbW.block ba lta))
   have hB3:Below w.heap.size w w3:=below_kept (onB hBr hbW) hk3 hS0
   have hna3 : ¬ S' ba:=fun e=>(hS3 ba e).elim hna fun h'=>by omega
   refine ⟨by rw [hv3.cell (by omega),hfke],hv3.frozen kk,hv3.lt,hB3,fun w4 hb4=>?_⟩
   have hH4:=HC.out.later h3 hb4
   have hH5:HV (w4.setCell ⟨ba,kk,none⟩ (.int .i64 (xn:Int))) h S' (squareD m) 2 (setL l (cornP m kk) (xn:Int)):=HC.out.keep hH4 (by simp [World.setCell]) fun b hb=>setCell_off _ _ _ _ _ fun e=>hna3 (by rw [←e];exact hb)
   refine ⟨⟨S',_,_,hH5,n1,fun b hb=>(hS3 b hb).elim (hS0 b) fun h'=>by have:=hBr.size;omega,hna3,hba,?_,⟨n3,n4⟩,fun j=>?_,(onB hB3 hb4).setCell hba _⟩,S',hH5⟩
   ·refine (hv3.same (hb4.block ba hv3.lt)).set (f':=fun j=>.int .i64 (if j=kk then (xn:Int) else f j)) fun j _=>?_
    by_cases e:j=kk
    ·simp only [if_pos e]
    ·simp only [if_neg e]
   ·by_cases e:j=kk
    ·simp only [if_pos e];exact hxb
    ·simp only [if_neg e];exact hfb j
  have HDo:Hid (∀ w5:World,Below (hcW wr (1+(q:Int)) (1+(r:Int)) (xn:Int)).heap.size (hcW wr (1+(q:Int)) (1+(r:Int)) (xn:Int)) w5→w5.heap.size=wr.heap.size+2→Calls Tryz.prog 7 #[.pointer (some ⟨h,0,none⟩),.slice (some ⟨wr.heap.size+1,0,none⟩) 1 1] w5 fun e w3=>e=.returned (.tuple #[.int .i64 4,.nilIface])∧w3.cell? ⟨ba,kk,none⟩=some (.int .i64 fk)∧w3.frozen? ⟨ba,kk,none⟩=false∧ba<w3.heap.size∧Below w.heap.size w w3∧∀ w4:World,Below w3.heap.size w3 w4→HCs HV w (w4.setCell ⟨ba,kk,none⟩ (.int .i64 (xn:Int))) h ba m (s-fk+(xn:Int))∧∃ S'',HV (w4.setCell ⟨ba,kk,none⟩ (.int .i64 (xn:Int))) h S'' (squareD m) 2 (setL l (cornP m kk) (xn:Int))):=fun w5 hb5 hsz=>by
   have hbW:Below wr.heap.size wr w5:=onB hbW0 hb5
   have h':=HC.out.edit h S0 (squareD m) 2 l (some ⟨wr.heap.size+1,0,none⟩) 1 (hcX wr (1+(q:Int)) (1+(r:Int)) (xn:Int)) w5 (HC.out.later hh hbW) ((hcW_eds _ _ _ _).later hb5)
   have hlx:lD (hcX wr (1+(q:Int)) (1+(r:Int)) (xn:Int))=[⟨cornP m kk,(xn:Int),false⟩]:=by rw [HP.out];rfl
   have hll':(hcX wr (1+(q:Int)) (1+(r:Int)) (xn:Int)).length=1:=rfl
   rw [hlx,hll',d1,d2,d3,errV_zero] at h'
   refine h'.mono ?_
   rintro e3 w3 ⟨⟨S',rfl,h3,hS3⟩,hk3⟩
   exact ⟨rfl,HAf.out w5 w3 hbW hsz S' h3 hS3 hk3⟩
  have HCe:Hid (hcV (squareD m) 2 (setL l (cornP m kk) (xn:Int)) [0,0]=(1,s-fk+(xn:Int))∧placeErr (squareD m) 2 [0,0]=0):=⟨n2,by
   obtain ⟨hE,-⟩:=ru_right (sq_cube Hm9.out).1
   rw [place_shapeN hE]
   exact sq_shape ⟨m,by have:=Hm9.out;omega⟩ ⟨0,by omega⟩ ⟨0,by omega⟩ hm0 (Nat.zero_le _) (Nat.zero_le _)⟩
  obtain ⟨t,ht⟩:∃ t:Int,s-fk+(xn:Int)=t:=⟨_,rfl⟩
  have hof:ofP t=(1,t):=by unfold ofP;rw [if_pos (by omega)]
  have Ht:=hid_of ht
  have hka:(kk:Int)<100:=by omega
  clear hh hcor hS0 hna hba hva hsb hfb hBr d1 d2 d3 n1 n2 n3 n4 hfke hkk hkmm hmm HAf hWs hbW0 ht
  go_upto_region 13 with fail
  go_cut [11,12] from 28 to 113 (fun s11 s12 wx=>s11=.int .i64 4∧s12=.nilIface∧wx.cell? ⟨ba,kk,none⟩=some (.int .i64 fk)∧wx.frozen? ⟨ba,kk,none⟩=false∧ba<wx.heap.size∧Below w.heap.size w wx∧Hid (∀ w4:World,Below wx.heap.size wx w4→HCs HV w (w4.setCell ⟨ba,kk,none⟩ (.int .i64 (xn:Int))) h ba m (s-fk+(xn:Int))∧∃ S'',HV (w4.setCell ⟨ba,kk,none⟩ (.int .i64 (xn:Int))) h S'' (squareD m) 2 (setL l (cornP m kk) (xn:Int))))
  case first =>
   go_region_law ((go_simp;refine (HDo.out _ (by unfold hcW;go_grown) (by simp)).mono ?_;rintro e w3 ⟨rfl,y1,y2,y3,y4,y5⟩))
   all_goals go_wp2_with fail
   all_goals go_meet
   all_goals exact ⟨rfl,rfl,y1,y2,y3,y4,y5⟩
  case rest =>
  obtain ⟨rfl,rfl,y1,y2,y3,y4,HY⟩:=hcut
  obtain ⟨w3,rfl⟩:∃ w3:World,w3=wc:=⟨_,rfl⟩
  obtain ⟨cx3,hb13⟩:=HX.out w3 y4
  have HY4:=hid_of y4
  clear HDo cx' hb1' y4
  go_wp2_with fail
  go_cut [7] from 28 to 113 (fun s7 wx=>s7=.int .i64 t∧wx.cell? ⟨ba,kk,none⟩=some (.int .i64 fk)∧wx.frozen? ⟨ba,kk,none⟩=false∧ba<wx.heap.size∧wx.cell? ⟨b1,o1+k,none⟩=some (.int .i64 (xn:Int))∧b1<wx.heap.size∧Below w3.heap.size w3 wx)
  case first =>
   go_quiet (fail)
   go_wp2_with fail
   go_meet
   exact ⟨by rw [Ht.out],by first | exact y1 | simpa using y1,by first | exact y2 | simpa using y2,by first | exact y3 | simpa using y3,by first | exact cx3 | simpa using cx3,by first | exact hb13 | simpa using hb13,by first | exact Below.refl _ _ | exact below_drewN (Below.refl _ _) _⟩
  case rest =>
  obtain ⟨rfl,z1,z2,z3,z4,z5,hb4⟩:=hcut
  obtain ⟨w4,rfl⟩:∃ w4:World,w4=wc:=⟨_,rfl⟩
  obtain ⟨hHC,S2,hHV⟩:=HY.out w4 hb4
  rw [Ht.out] at hHC
  obtain ⟨V,hV⟩:∃ V,w4.setCell ⟨ba,kk,none⟩ (.int .i64 (xn:Int))=V:=⟨_,rfl⟩
  rw [hV] at hHC hHV
  have HHC:=hid_of hHC
  obtain ⟨V2,hV2⟩:∃ V2,V.alloc (.cells #[.int .i64 0,.int .i64 0] 3)=V2:=⟨_,rfl⟩
  have hbV:Below V.heap.size V V2:=by rw [←hV2];go_grown
  have hpl:PlAt V2 (some ⟨V.heap.size,0,none⟩) 2 [0,0]:=by
   have k3:IntB V2 V.heap.size [0,0]:=by rw [←hV2];unfold IntB;exact bkN rfl
   exact k3.pl
  have hcell:=HKc.out h S2 (squareD m) 2 _ (some ⟨V.heap.size,0,none⟩) 2 [0,0] V2 (HC.out.later hHV hbV) hpl
  rw [HCe.out.1,HCe.out.2,errV_zero,Ht.out] at hcell
  have HBV:Hid (Below V.heap.size V V2):=hbV
  have hlen:([0,0]:List Int).length=2:=rfl
  rw [hlen] at hcell
  clear hHC hHV hpl hbV hb4 HY hlen
  go_wp2_with fail
  refine hcell.mono ?_
  rintro e w5 ⟨rfl,hb5⟩
  have HB5:Hid (Below V.heap.size V w5):=onB HBV.out hb5
  obtain ⟨w6,hw6⟩:∃ w6,w5.alloc (.cells #[.int .i64 1,.int .i64 t] 54)=w6:=⟨_,rfl⟩
  have hb6:Below w5.heap.size w5 w6:=by rw [←hw6];go_grown
  have hk6:w5.heap.size<w6.heap.size∧w6.cell? ⟨w5.heap.size,0,none⟩=some (.int .i64 1)∧w6.cell? ⟨w5.heap.size,1,none⟩=some (.int .i64 t):=by
   have k:w6.heap[w5.heap.size]?=some (.cells #[.int .i64 1,.int .i64 t] 54 (0,0)):=by rw [←hw6];exact bkN rfl
   exact ⟨(Array.getElem?_eq_some_iff.1 k).1,(Lib.cell_of_heap k 0).trans rfl,(Lib.cell_of_heap k 1).trans rfl⟩
  have HK6:=hid_of hk6
  have HB6:Hid (Below V.heap.size V w6):=onB HB5.out hb6
  have HOf:Hid (∀ w',Calls Tryz.prog 15 #[.int .i64 t] w' fun e w''=>e=.returned (.agg #[.int .i64 1,.int .i64 t])∧Below w'.heap.size w' w''):=fun w'=>by
   have h':=of_any t w'
   rw [hof] at h'
   exact h'
  obtain ⟨e1,e2,e3⟩:=hk6
  clear hcell hb5 hb6 hV hV2 z1 z2 z3 z4 z5
  go_wp2_with fail
  go_cut [113] from 28 to 113 (fun s113 wx=>s113=.bool false∧Below w6.heap.size w6 wx)
  case first =>
   go_region_held3 (fun w'=>Below w6.heap.size w6 w'∧w'.cell? ⟨w5.heap.size,0,none⟩=some (.int .i64 1)∧w'.cell? ⟨w5.heap.size,1,none⟩=some (.int .i64 t))
    ((refine keepC2 HK6.out ?_;go_grown;done))
    (first | (go_at_call 15;refine (HOf.out _).mono ?_;rintro e w7 ⟨rfl,hb7⟩;have hM7:=onB (W0:=w6) (by go_grown) hb7;have hy7:=hM7.size;clear hb7))
   all_goals go_wp2_with fail
   all_goals go_meet
   all_goals exact ⟨rfl,by go_grown⟩
  case rest =>
  obtain ⟨rfl,hb8⟩:=hcut
  have HK8:=hid_of (HCs.later HC.out HHC.out (onB HB6.out hb8))
  clear hb8
  go_wp2_with fail
  go_roundg (ll-(k+1))
  case measure=>omega
  case rel=>exact ⟨k+1,t,by omega,rfl,by go_num,rfl,HK8⟩
end Go.Proofs.YtfgegmpoejilnaaGreatDoor
