/-
  slices.symMergeCmpFunc at ints where the second part is one element.
-/
import Derived.Test.YtfemjinbfebejaaGreatDoorJBAQ
import Derived.Test.YtfemjinbfebejaaGreatDoorJBAV
namespace Go.Proofs.YtfemjinbfebejaaGreatDoor
open Go Go.ChangeShapes Go.WideShapes Go.ChangeAt Go.RowKit Go.Shelf Go.Lib Go.Sort
set_option linter.unusedSectionVars false
set_option maxRecDepth 100000
variable {α:Type} [Inhabited α]
set_option maxHeartbeats 8000000 in
theorem sym2_any {cf:α→α→Int} {tot:α→α→Bool} {ix:α→Nat} {g:Nat} {cb:Array Value} {blk off:Nat} {d0:Array α} {w0:World} (M:MgC cf tot ix g cb blk off d0 w0)
  (cap a m b:Nat) (d:Array α) (w:World) (hs:d0.size=d.size) (S:SW (encI ix) w0 blk off d w) (W:TwoP tot ix a m b d) (hm:b=m+1) (h2:a+1<m) (hb:b≤d.size) :
  Calls Tryz.prog 96 #[.slice (some ⟨blk,off,none⟩) d.size cap,.int .i64 a,.int .i64 m,.int .i64 b,.func (.func g) #[] cb] w fun e w'=>e=.returned (.tuple #[])∧∃ d',SortedIn tot a b d'∧PermIn a b d d'∧SW (encI ix) w0 blk off d' w':=by
 have mixed:Tryz.prog.follows .mixedOrders=true:=by kernel_rfl
 obtain ⟨eg,hcmp,R,T,hsz⟩:=M
 have HC:Aside (CmpLays1 Tryz.prog g cb (encI ix) cf blk off d0.size w0):=hcmp
 have HT:Hid (Tie (ltOf cf) tot ix):=T
 have HW:Hid (TwoP tot ix a m (m+1) d):=by rw [hm] at W;exact W
 have S0:Aside (SW (encI ix) w0 blk off d w):=S
 clear S hcmp T W
 have hm0:IntKind.i64.wrap ((m:Int)-(a:Int))=((m-a:Nat):Int):=by rw [IntKind.wrap_i64];omega
 have hm3:(((m-a:Nat):Int) == 1)=false:=by simp;omega
 have hm1:IntKind.i64.wrap ((b:Int)-(m:Int))=1:=by rw [IntKind.wrap_i64];omega
 have hmb:m<d.size:=by omega
 have HM:Hid (b=m+1):=hm
 clear hm hb
 go_enter Tryz.func96,Tryz.ntmps96
 go_wp2
 go_loopg [14,15] (m-a) (fun gg s10 s11 wr => ∃ (i j:Nat),s10=.int .i64 i∧s11=.int .i64 j∧a≤i∧i≤j∧j≤m∧j-i≤gg∧Aside (SW (encI ix) w0 blk off d wr)∧Hid ((i=a∨tot d[m]! d[i-1]! = false)∧(j=m∨tot d[m]! d[j]! = true)))
 case atStart=>exact ⟨a,m,rfl,rfl,by omega,by omega,Nat.le_refl _,by omega,S0,⟨Or.inl rfl,Or.inl rfl⟩⟩
 case round =>
  clear S0
  obtain ⟨i,j,rfl,rfl,hai,hij,hjb,hgg,S1,HE⟩:=hrel
  by_cases hlt:i<j
  ·have hltz:(i:Int)<(j:Int):=by omega
   have htie:=HT.out.on d[m]! d[(i+j) / 2]! (HW.out.lo ((i+j) / 2) m (by omega) (by omega) (by omega) (by omega))
   have ba2:(m:Int)<(d.size:Int):=by omega
   have ea:(((i:Int)+(j:Int)) / 2).toNat=(i+j) / 2:=by omega
   have pa:(0:Int)≤((i:Int)+(j:Int)) / 2:=by omega
   have ba:((i:Int)+(j:Int)) / 2<(d.size:Int):=by omega
   have l1:=S1.out.cl R (by omega) m (by omega)
   have l2:=S1.out.cl R (by omega) ((i+j) / 2) (by omega)
   obtain ⟨x,hx⟩:∃ x,x=d[m]! := ⟨_,rfl⟩
   obtain ⟨y,hy⟩:∃ y,y=d[(i+j) / 2]! := ⟨_,rfl⟩
   rw [←hx,←hy] at htie
   rw [←hx] at l1
   rw [←hy] at l2
   have hc:=S1.out.cmp HC.out (by omega) x y
   unfold encI at l1 l2 hc
   cases hv:tot x y with
   | true =>
    have hd:decide (cf x y<0)=true:=by rw [hv] at htie;exact htie
    have HE2:Hid ((i=a∨tot d[m]! d[i-1]! = false)∧((i+j) / 2=m∨tot d[m]! d[(i+j) / 2]! = true)):=⟨HE.out.1,Or.inr (by rw [←hx,←hy];exact hv)⟩
    clear HE hv htie hx hy
    go_wp2_with fail
    go_quiet_grown (first | (go_at_fn g;refine Calls.grown_of (hc _ _)))
    have S2:Aside (SW (encI ix) w0 blk off d (grow (wr.drewN nq) osq)):=S1.out.grown nq osq
    clear l1 l2 hc S1
    generalize grow (wr.drewN nq) osq=w2 at S2 ⊢
    go_wp2
    go_roundg ((i+j) / 2-i)
    case measure=>omega
    case rel=>exact ⟨i,(i+j) / 2,rfl,by go_num,hai,by omega,by omega,Nat.le_refl _,S2,HE2⟩
   | false =>
    have hd:decide (cf x y<0)=false:=by rw [hv] at htie;exact htie
    have HE2:Hid (((i+j) / 2+1=a∨tot d[m]! d[(i+j) / 2+1-1]! = false)∧(j=m∨tot d[m]! d[j]! = true)):=⟨Or.inr (by rw [Nat.add_sub_cancel,←hx,←hy];exact hv),HE.out.2⟩
    clear HE hv htie hx hy
    go_wp2_with fail
    go_quiet_grown (first | (go_at_fn g;refine Calls.grown_of (hc _ _)))
    have S2:Aside (SW (encI ix) w0 blk off d (grow (wr.drewN nq) osq)):=S1.out.grown nq osq
    clear l1 l2 hc S1
    generalize grow (wr.drewN nq) osq=w2 at S2 ⊢
    go_wp2
    go_roundg (j-((i+j) / 2+1))
    case measure=>omega
    case rel=>exact ⟨(i+j) / 2+1,j,by go_num,rfl,by omega,by omega,hjb,Nat.le_refl _,S2,HE2⟩
  ·have hie:i=j:=by omega
   subst hie
   clear hlt hij hgg
   go_wp2
   go_loopg [17] (m-i) (fun gg s13 wr => ∃ (k:Nat) (dk:Array α),s13=.int .i64 k∧i≤k∧k≤m∧gg=k-i∧dk.size=d.size∧Aside (SW (encI ix) w0 blk off dk wr)∧Hid (mvl (k-i) k dk=mvl (m-i) m d))
   case atStart=>exact ⟨m,d,rfl,by omega,Nat.le_refl _,rfl,rfl,S1,rfl⟩
   case round =>
    clear S1
    obtain ⟨k,dk,rfl,hak,hki,rfl,hds,S1,HK⟩:=hrel
    by_cases hlt:i<k
    ·have hltz:(k:Int) > (i:Int):=by omega
     have r1:IntKind.i64.wrap ((k:Int)-1)=((k-1:Nat):Int):=by rw [IntKind.wrap_i64];omega
     have b1:(k:Int)<(d.size:Int):=by omega
     have b2:((k-1:Nat):Int)<(d.size:Int):=by omega
     obtain ⟨x,hx⟩:∃ x,x=ix dk[k]! := ⟨_,rfl⟩
     obtain ⟨y,hy⟩:∃ x,x=ix dk[k-1]! := ⟨_,rfl⟩
     have S2:Aside (SW (encI ix) w0 blk off (swp dk k (k-1)) ((wr.setCell ⟨blk,off+k,none⟩ (.int .i64 (y:Int))).setCell ⟨blk,off+(k-1),none⟩ (.int .i64 (x:Int))).drew):=by rw [hx,hy];exact S1.out.swapped R k (k-1) (by omega) (by omega)
     have c1:wr.cell? ⟨blk,off+k,none⟩=some (.int .i64 (x:Int)):=by rw [hx];exact S1.out.c1 R (by omega) k (by omega)
     have c2:wr.cell? ⟨blk,off+(k-1),none⟩=some (.int .i64 (y:Int)):=by rw [hy];exact S1.out.c1 R (by omega) (k-1) (by omega)
     have f1:=S1.out.f1 R (by omega) k (by omega)
     have f2:=S1.out.f1 R (by omega) (k-1) (by omega)
     obtain ⟨u,c3⟩:=S1.out.c2 R (by omega) k (k-1) (by omega) (by omega) (.int .i64 (y:Int))
     have HK2:Hid (mvl (k-1-i) (k-1) (swp dk k (k-1))=mvl (m-i) m d):=by
      have:=HK.out
      rw [show k-i=(k-1-i)+1 by omega] at this
      exact this
     have HSZ:Hid ((swp dk k (k-1)).size=d.size):=by show _=_;rw [size_swp];exact hds
     clear S1 hx hy HK hds
     go_wp2_with fail
     go_big_region_o
     clear c1 c2 c3 f1 f2
     generalize ((wr.setCell ⟨blk,off+k,none⟩ (.int .i64 (y:Int))).setCell ⟨blk,off+(k-1),none⟩ (.int .i64 (x:Int))).drew=w2 at S2 ⊢
     go_wp2
     go_roundg (k-1-i)
     case measure=>omega
     case rel=>exact ⟨k-1,swp dk k (k-1),by go_num,by omega,by omega,rfl,HSZ.out,S2,HK2⟩
    ·have hke:k=i:=by omega
     have hltz : ¬ (k:Int) > (i:Int):=by omega
     have hfin:SortedIn tot a b dk∧PermIn a b d dk:=by
      have hK:=HK.out
      rw [hke,Nat.sub_self] at hK
      have hr:=mvl_spec (m-i) m d (by omega) (by omega)
      rw [←hK,show m-(m-i)=i by omega] at hr
      rw [HM.out]
      exact one_left HT.out HW.out hai hjb (by omega) HE.out.1 HE.out.2 hr
     have HF:Hid (SortedIn tot a b dk∧PermIn a b d dk):=hfin
     clear hfin
     go_wp2
     refine bodyPost_ret (results_none rfl _ _ _) rfl ?_
     exact ⟨rfl,dk,HF.out.1,HF.out.2,S1.out⟩
end Go.Proofs.YtfemjinbfebejaaGreatDoor
namespace Go.Proofs.YtfemjinbfebejaaGreatDoor
open Go.ChangeShapes Go.WideShapes Go.ChangeAt Go.RowKit
set_option maxRecDepth 20000
theorem ops_snoc (l:List Int) (x:Int):opsN (l ++ [x])=opsN l+(if x≠0 then 1 else 0)∧zerosN (l ++ [x])=zerosN l+(if x=0 then 1 else 0):=by
 unfold opsN zerosN
 rw [List.countP_append,List.countP_append]
 by_cases e:x=0 <;> simp [e]
theorem take_is_opd {b:Bld} {t:ByteArray} (h:48≤byteN t 0):takeB b t=addB (opndN t) b:=by
 have hs : ¬ 0≤signI (byteN t 0):=by
  unfold signI
  rw [if_neg (by omega),if_neg (by omega),if_neg (by omega),if_neg (by omega)]
  omega
 rw [takeB,if_neg (by omega),if_neg (by omega),if_neg hs]
theorem fit_opd {a o n:Nat} {b:Bld} {x:Nd} (hn:1≤n) (hF:FitB a o false b):FitB (a+n) o true (addB x b):=by
 obtain ⟨f1,f2,f3,f4,f5⟩:=hF
 refine ⟨f1,?_,?_,?_,?_⟩
 ·simp [addB] at f2 ⊢;omega
 ·simp [addB];omega
 ·simp [addB];omega
 ·simp [addB];omega
theorem fit_step {a o o':Nat} {ph ph':Bool} {b:Bld} {t:ByteArray} (hS:Stp o ph t o' ph') (hF:FitB a o ph b):FitB (a+t.size) o' ph' (takeB b t):=by
 cases hS with
 | opn o t h1 h40 =>
  obtain ⟨f1,f2,f3,f4,f5⟩:=hF
  have hT:takeB b t=⟨b.nodes,b.ready,b.waiting ++ [0]⟩:=by rw [takeB,if_pos h40]
  rw [hT]
  obtain ⟨s1,s2⟩:=ops_snoc b.waiting 0
  rw [if_neg (by decide)] at s1
  rw [if_pos rfl] at s2
  simp at f2
  refine ⟨?_,?_,?_,?_,?_⟩
  ·show zerosN (b.waiting ++ [0])=_;omega
  ·show opsN (b.waiting ++ [0])+_≤b.ready.length;simp;omega
  ·show b.nodes.length+opsN (b.waiting ++ [0])≤_;omega
  ·show (b.waiting ++ [0]).length≤_;simp;omega
  ·show b.ready.length≤_;omega
 | cls _ t h1 h41 =>
  obtain ⟨f1,f2,f3,f4,f5⟩:=hF
  simp at f2
  have hT:takeB b t=⟨(settleB 0 b).nodes,(settleB 0 b).ready,(settleB 0 b).waiting.take ((settleB 0 b).waiting.length-1)⟩:=by rw [takeB,if_neg (by omega),if_pos h41]
  rw [hT]
  obtain ⟨q1,q2,q3,q4,q5⟩:=settleB_inv 0 b f2
  have hpos:1≤(settleB 0 b).waiting.length:=by have:=zo_len (settleB 0 b).waiting;omega
  obtain ⟨k,hk⟩:∃ k,(settleB 0 b).waiting.length=k+1:=⟨(settleB 0 b).waiting.length-1,by omega⟩
  have hz:(settleB 0 b).waiting.getD k 0=0:=settle_zero _ b rfl k hk
  obtain ⟨o1,o2⟩:=ops_last hk
  rw [hz,if_neg (by decide)] at o1
  rw [hz,if_pos rfl] at o2
  rw [hk,Nat.add_sub_cancel]
  refine ⟨?_,?_,?_,?_,?_⟩
  ·show zerosN ((settleB 0 b).waiting.take k)=_;omega
  ·show opsN ((settleB 0 b).waiting.take k)+_≤(settleB 0 b).ready.length;simp;omega
  ·show (settleB 0 b).nodes.length+opsN ((settleB 0 b).waiting.take k)≤_;omega
  ·show ((settleB 0 b).waiting.take k).length≤_;simp;omega
  ·show (settleB 0 b).ready.length≤_;omega
 | num _ t h1 h7 hd =>
  have h0:=hd 0 (by omega)
  unfold digB at h0
  simp at h0
  rw [take_is_opd (by omega)]
  exact fit_opd h1 hF
 | nam _ t h1 hl =>
  have h0:=hl 0 (by omega)
  unfold letB at h0
  simp at h0
  rw [take_is_opd (by omega)]
  exact fit_opd h1 hF
 | sgn _ t h1 hs =>
  obtain ⟨f1,f2,f3,f4,f5⟩:=hF
  simp at f2
  obtain ⟨i,hi⟩:∃ i,signI (byteN t 0)=i:=⟨_,rfl⟩
  have hc:=sign_cases hs
  have hT:takeB b t=⟨(settleB (bindN (3+i)) b).nodes,(settleB (bindN (3+i)) b).ready,(settleB (bindN (3+i)) b).waiting ++ [3+i]⟩:=by
   rw [takeB,if_neg (by omega),if_neg (by omega),if_pos hs,hi]
  rw [hT]
  obtain ⟨q1,q2,q3,q4,q5⟩:=settleB_inv (bindN (3+i)) b f2
  obtain ⟨s1,s2⟩:=ops_snoc (settleB (bindN (3+i)) b).waiting (3+i)
  rw [if_pos (by omega)] at s1
  rw [if_neg (by omega)] at s2
  generalize settleB (bindN (3+i)) b=b1 at *
  refine ⟨?_,?_,?_,?_,?_⟩
  ·show zerosN (b1.waiting ++ [3+i])=_;omega
  ·show opsN (b1.waiting ++ [3+i])+_≤b1.ready.length;simp;omega
  ·show b1.nodes.length+opsN (b1.waiting ++ [3+i])≤_;omega
  ·show (b1.waiting ++ [3+i]).length≤_;simp;omega
  ·show b1.ready.length≤_;omega
theorem take_any (N p a o o':Nat) (ph ph':Bool) (b:Bld) (t:ByteArray) (w:World) (hN:N≤w.heap.size) (hS:Stp o ph t o' ph') (hF:FitB a o ph b) (ha:a+t.size≤100) (hB:BldAt N p b w) :
  Calls Tryz.prog 98 #[.pointer (some ⟨p,0,none⟩),.string t] w fun e w'=>e=.returned (.tuple #[])∧BldAt N p (takeB b t) w'∧Kept N (fun k=>k=p) w w':=by
 obtain ⟨f1,f2,f3,f4,f5⟩:=hF
 cases hS with
 | opn o t h1 h40 =>
  have hT:takeB b t=⟨b.nodes,b.ready,b.waiting ++ [0]⟩:=by rw [takeB,if_pos h40]
  rw [hT]
  exact take_opn N p b t w hN h1 h40 (by omega) hB
 | cls _ t h1 h41 =>
  simp at f2
  have hT:takeB b t=⟨(settleB 0 b).nodes,(settleB 0 b).ready,(settleB 0 b).waiting.take ((settleB 0 b).waiting.length-1)⟩:=by rw [takeB,if_neg (by omega),if_pos h41]
  rw [hT]
  exact take_cls N p b t w hN h1 h41 (by omega) (by omega) f2 (by omega) (by omega) hB
 | num _ t h1 h7 hd =>
  have h0:=hd 0 (by omega)
  unfold digB at h0
  simp at h0
  rw [take_is_opd (by omega)]
  exact take_opd N p b t w hN h1 (by omega) (Or.inr ⟨h7,hd⟩) (by omega) (by omega) hB
 | nam _ t h1 hl =>
  have h0:=hl 0 (by omega)
  have h0':=h0
  unfold letB at h0
  simp at h0
  rw [take_is_opd (by omega)]
  exact take_opd N p b t w hN h1 (by omega) (Or.inl h0') (by omega) (by omega) hB
 | sgn _ t h1 hs =>
  simp at f2
  obtain ⟨i,hi⟩:∃ i,signI (byteN t 0)=i:=⟨_,rfl⟩
  have hc:=sign_cases hs
  have hT:takeB b t=⟨(settleB (bindN (3+i)) b).nodes,(settleB (bindN (3+i)) b).ready,(settleB (bindN (3+i)) b).waiting ++ [3+i]⟩:=by
   rw [takeB,if_neg (by omega),if_neg (by omega),if_pos hs,hi]
  rw [hT]
  exact take_sgn N p b t w hN h1 (byteN t 0) i rfl hi (by rw [hi] at hc;exact hc) (by omega) (by omega) f2 (by omega) hB
def tkB (N p:Nat):Tkr Bld:=⟨N,p,100,98,#[.pointer (some ⟨p,0,none⟩)],takeB,fun b w=>BldAt N p b w,FitB⟩
theorem tkB_ok (N p:Nat):(tkB N p).Ok:=by
 refine ⟨by show 100≤_;omega,?_,?_,?_,?_⟩
 ·intro args w;show (callFunc 98 args).run Tryz.prog w=_;simp [go_sem,tkB]
 ·rintro q st w w' hq hqp ⟨AN,cN,AR,cR,AW,cW,hV⟩ hg
  refine ⟨_,_,_,_,_,_,hV.stay fun k hk hkp=>hg.block k hk fun e=>?_⟩
  have e':k=q:=by simpa using e
  have hq':q<N:=hq
  have hqp':q≠p:=hqp
  omega
 ·intro a o ph st t o' ph' hS hF _
  exact fit_step hS hF
 ·intro a o ph st t o' ph' w hS hF ha hN hB
  exact take_any N p a o o' ph ph' st t w hN hS hF ha hB
end Go.Proofs.YtfemjinbfebejaaGreatDoor
