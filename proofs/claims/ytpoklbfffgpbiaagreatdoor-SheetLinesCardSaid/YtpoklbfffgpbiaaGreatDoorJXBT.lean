/-
  A LINE FOR EACH: the walk of tallylaw4.SheetLines.
-/
import Derived.Test.YtpoklbfffgpbiaaGreatDoorJXBS
namespace Go.Proofs.YtpoklbfffgpbiaaGreatDoor
open Go Go.ChangeShapes Go.WideShapes Go.ChangeAt Go.RowKit
set_option maxRecDepth 20000
def sliO:Nat→Dm:=fun _=>⟨⟨#[97]⟩,0,1,fun _=>⟨⟨#[98]⟩,-1,0,⟨#[]⟩⟩⟩
theorem sli_sh:shE sliO 1 (lE [])=0:=by
 have h:(ruErr sliO 1).2.2=0:=bare_right (by decide +kernel) fun _ _ _ _=>rfl
 unfold shE
 rw [h,if_neg (by simp)]
 decide +kernel
theorem sli_text:shV sliO 1 (lE [])=⟨#[100,105,109,32,97,32,48,10,109,101,109,32,98,32,45,32,126,10]⟩:=by
 unfold shV
 rw [if_pos sli_sh]
 decide +kernel
def sliW (w:World):World:=(w.alloc (.cells #[.string ⟨#[98]⟩,.int .i64 (-1),.int .i64 0,.string ⟨#[]⟩] 43)).alloc (.cells #[.string ⟨#[97]⟩,.int .i64 0,.slice (some ⟨w.heap.size,0,none⟩) 1 1] 32)
theorem sliW_below (w:World):Below w.heap.size w (sliW w):=by unfold sliW;go_grown
theorem sliW_dims (w:World):DimsV (sliW w) (some ⟨w.heap.size+1,0,none⟩) 1 1 sliO (fun _=>some ⟨w.heap.size,0,none⟩) (fun _=>1):=by
 have k0:(sliW w).heap[w.heap.size]?=some (.cells #[.string ⟨#[98]⟩,.int .i64 (-1),.int .i64 0,.string ⟨#[]⟩] 43 (0,0)):=by unfold sliW;exact eachO (eachN rfl)
 have k1:(sliW w).heap[w.heap.size+1]?=some (.cells #[.string ⟨#[97]⟩,.int .i64 0,.slice (some ⟨w.heap.size,0,none⟩) 1 1] 32 (0,0)):=by unfold sliW;exact eachN (by simp)
 refine ⟨Nat.le_refl _,Or.inr ⟨w.heap.size+1,0,rfl,(Array.getElem?_eq_some_iff.1 k1).1,fun i hi=>?_⟩⟩
 have hi0:i=0:=by omega
 subst hi0
 refine ⟨(Lib.cell_of_heap k1 0).trans rfl,(Lib.cell_of_heap k1 1).trans rfl,(Lib.cell_of_heap k1 2).trans rfl,Nat.le_refl _,Or.inr ⟨w.heap.size,0,rfl,(Array.getElem?_eq_some_iff.1 k0).1,fun j hj=>?_⟩⟩
 have hj2:j<1:=hj
 rcases j with _ | j
 ·exact ⟨(Lib.cell_of_heap k0 0).trans rfl,(Lib.cell_of_heap k0 1).trans rfl,(Lib.cell_of_heap k0 2).trans rfl,(Lib.cell_of_heap k0 3).trans rfl⟩
 ·omega
theorem end_take {s:ByteArray} {k:Nat} (hk:k<s.size):endN (s.data.toList.take (k+1))=endN (s.data.toList.take k)+endN [s[k]]:=by
 rw [List.take_add_one,byte_at hk,endN_app]
 rfl
theorem end_yes {c:UInt8} (h:c=10):endN [c]=1:=by subst h;rfl
theorem end_not {c:UInt8} (h:c≠10):endN [c]=0:=endN_none fun x hx=>by rw [List.mem_singleton] at hx;subst hx;exact h
theorem shV_small {D:Nat→Dm} {n:Nat} {l:List En} (h:shE D n l=0):(shV D n l).size≤100000000∧endN (shV D n l).data.toList=n+l.length+memN D n:=by
 obtain ⟨hr,hE⟩:=she_ok h
 obtain ⟨hn,hd⟩:=allErr_right hE.right
 have h1:=dimsT_len hd n (Nat.le_refl _)
 have h2:=celsT_len l fun e he=>⟨(hE.each e he).1,(hE.each e he).2.2⟩
 have h3:=hE.few
 have e:shV D n l=⟨(shT D n l).toArray⟩:=by unfold shV;rw [if_pos h]
 refine ⟨?_,?_⟩
 ·rw [e]
  show (List.toArray _).size≤_
  rw [List.size_toArray]
  unfold shT
  rw [List.length_append]
  omega
 ·rw [e,←shT_end h]
theorem memN_le {D:Nat→Dm} {n:Nat} (h:(allErr D n).2.2=0):∀ k,k≤n→memN D k≤12*k
 | 0,_=>Nat.le_refl _
 | k+1,hk=>by
  have h1:=memN_le h k (by omega)
  have h2:=(dimErr_right ((allErr_right h).2 k (by omega))).2.2.1
  rw [memN]
  omega
set_option maxHeartbeats 16000000 in
theorem slines_law (A0:Option Addr) (cap n:Nat) (D:Nat→Dm) (A:Nat→Option Addr) (C:Nat→Nat) (AE:Option Addr) (ce:Nat) (xs:List EnL) (w:World) (hT:TabE w) (hM:DimsV w A0 cap n D A C) (hEn:EnsV w AE ce xs) :
  Calls Tryz.prog 4 #[.agg #[.slice A0 n cap],.slice AE xs.length ce] w fun e w'=>e=.returned (.bool true)∧Below w.heap.size w w':=by
 have hB0:=ownOut_below w A0 n cap 24
 have hA:=ownOut_at w A0 n cap 24
 have hS:=ownOut_size w A0 n cap 24
 obtain ⟨W,hW⟩:∃ W,ownOut w A0 n cap 24=W:=⟨_,rfl⟩
 rw [hW] at hB0 hA hS
 unfold ownOut at hW
 have hs0:w.heap.size<W.heap.size:=by omega
 have HA:Hid (∀ w',Below W.heap.size W w'→w'.cell? ⟨w.heap.size,0,none⟩=some (.slice A0 n cap)∧w.heap.size<w'.heap.size):=fun w' h=>⟨(h.cell (p:=⟨w.heap.size,0,none⟩) hs0).trans hA,Nat.lt_of_lt_of_le hs0 h.size⟩
 have HB0:=hid_of hB0
 have HM:=hid_of hM
 have HEn:=hid_of hEn
 have HT:=hid_of hT
 have h1:=sprint_any (some ⟨W.heap.size+1,0,none⟩) 1 1 sliO (fun _=>some ⟨W.heap.size,0,none⟩) (fun _=>1) none 0 [] (sliW W) (hT.later (onB hB0 (sliW_below W))) (sliW_dims W) (EnsV.nil _ _ _ (by omega))
 rw [sli_text,sli_sh,errV_zero] at h1
 have HB1:=hid_of (sliW_below W)
 have hW2:(W.alloc (.cells #[.string ⟨#[98]⟩,.int .i64 (-1),.int .i64 0,.string ⟨#[]⟩] 43)).alloc (.cells #[.string ⟨#[97]⟩,.int .i64 0,.slice (some ⟨W.heap.size,0,none⟩) 1 1] 32)=sliW W:=rfl
 generalize sliW W=V at h1 HB1 hW2
 obtain ⟨xl,hxl⟩:∃ xl,xs.length=xl:=⟨_,rfl⟩
 have HXl:=hid_of hxl
 have HP:Hid (∀ w',Below w.heap.size w w'→Calls Tryz.prog 6 #[.agg #[.slice A0 n cap],.slice AE xl ce] w' fun e w''=>e=.returned (.tuple #[.string (shV D n (lE xs)),errV (shE D n (lE xs))])∧Below w'.heap.size w' w''):=fun w' hb=>by
  rw [←HXl.out]
  exact sprint_any A0 cap n D A C AE ce xs w' (HT.out.later hb) (HM.out.later hb) (HEn.out.later hb)
 rw [hxl]
 clear hB0 hA hS hM hEn hT hxl
 go_enter Tryz.func4,Tryz.ntmps4
 go_wp2_with fail
 refine h1.mono ?_
 rintro e w1 ⟨rfl,hb1⟩
 have HB2:=hid_of (onB HB1.out hb1)
 obtain ⟨c1,c2⟩:=HA.out w1 HB2.out
 have h2:=HP.out w1 (onB HB0.out HB2.out)
 clear h1 hb1 hW2 HB1
 by_cases hok:shE D n (lE xs)=0
 ·rw [hok,errV_zero] at h2
  obtain ⟨hsz,hend⟩:=shV_small hok
  have hEs:=(she_ok hok).2
  have hr:=hEs.right
  obtain ⟨g1,g2⟩:=allErr_right hr
  have g3:=(allErr_some hr).1
  have hmb:=memN_le hr
  have hfew:=hEs.few
  have hlen:(lE xs).length=xl:=by rw [←HXl.out];simp [lE]
  rw [hlen] at hend hfew
  obtain ⟨S,hS⟩:∃ S,shV D n (lE xs)=S:=⟨_,rfl⟩
  rw [hS] at h2 hsz hend
  have HEnd:=hid_of hend
  have HMb:=hid_of hmb
  have hsz':(S.size:Int)≤100000000:=by omega
  have hxl':(xl:Int)≤3000:=by omega
  have hn4:(n:Int)≤4:=by omega
  clear hend hmb hlen hS hok hEs hr g2 HP
  go_wp2_with fail
  refine h2.mono ?_
  rintro e w2 ⟨rfl,hb2⟩
  have HB3:=hid_of (onB HB2.out hb2)
  clear h2 hb2 HB2 c1 c2
  obtain ⟨c1,c2⟩:=HA.out w2 HB3.out
  go_wp2_with fail
  go_loopg [9,10] S.size (fun g s9 s10 wr => ∃ (k:Nat),k≤S.size∧g=S.size-k∧s10=.int .i64 k∧s9=.int .i64 (endN (S.data.toList.take k))∧wr=w2)
  case atStart=>exact ⟨0,Nat.zero_le _,rfl,rfl,rfl,rfl⟩
  case round =>
   obtain ⟨k,hk,rfl,rfl,rfl,rfl⟩:=hrel
   have hle:endN (S.data.toList.take k)≤k:=by
    unfold endN
    refine Nat.le_trans (List.length_filter_le _ _) ?_
    rw [List.length_take]
    omega
   by_cases hlt:k<S.size
   ·have hki:(k:Int)<(S.size:Int):=by omega
    have ht:=end_take hlt
    by_cases hb:S[k]=10
    ·have hbi:((S[k].toNat:Int) == 10)=true:=by rw [hb];rfl
     rw [end_yes hb] at ht
     have HTk:=hid_of ht
     obtain ⟨z,hz⟩:∃ z,endN (S.data.toList.take k)=z:=⟨_,rfl⟩
     rw [hz] at hle HTk ⊢
     have hzi:(z:Int)≤100000000:=by omega
     clear hb ht hz
     go_wp2_with fail
     go_roundg (S.size-(k+1))
     case measure=>omega
     case rel=>exact ⟨k+1,by omega,rfl,by go_num,by rw [HTk.out];go_num,rfl⟩
    ·have hbn : ¬ (S[k].toNat:Int)=10:=fun e=>hb (by
      have e1:S[k].toNat=(10:UInt8).toNat:=by have e2:(10:UInt8).toNat=10:=rfl;omega
      exact UInt8.toNat_inj.1 e1)
     have hbi:((S[k].toNat:Int) == 10)=false:=by simpa using hbn
     rw [end_not hb] at ht
     have HTk:=hid_of ht
     clear hb ht hbn
     go_wp2_with fail
     go_roundg (S.size-(k+1))
     case measure=>omega
     case rel=>exact ⟨k+1,by omega,rfl,by go_num,by rw [HTk.out];rfl,rfl⟩
   ·have hke:k=S.size:=by omega
    subst hke
    have hall:S.data.toList.take S.size=S.data.toList:=List.take_of_length_le (by simp)
    rw [hall,HEnd.out] at hle ⊢
    obtain ⟨wk,rfl⟩:∃ wk:World,wk=wr:=⟨_,rfl⟩
    have HM2:=HM.out.later (onB HB0.out HB3.out)
    obtain ⟨hcap,h0 | ⟨b,o,rfl,hMs⟩⟩:=HM2
    ·omega
    have HMs:=hid_of hMs
    have hb4:∀ k,k≤n→memN D k≤48:=fun k hk=>by have:=HMb.out k hk;omega
    have Hb4:=hid_of hb4
    have hn0:=hb4 n (Nat.le_refl _)
    obtain ⟨z,hz⟩:∃ z,n+xl+memN D n=z:=⟨_,rfl⟩
    have HZ:=hid_of hz
    rw [hz]
    clear hMs hall hb4 hle HEnd hz
    go_wp2_with fail
    go_loopg [11,12] n (fun g s11 s12 wr => ∃ (k:Nat),k≤n∧g=n-k∧s12=.int .i64 k∧s11=.int .i64 ((n+xl+memN D k:Nat):Int)∧wr=wk)
    case atStart=>exact ⟨0,Nat.zero_le _,rfl,rfl,by simp [memN],rfl⟩
    case round =>
     obtain ⟨k,hk,rfl,rfl,rfl,rfl⟩:=hrel
     have hm:=Hb4.out k hk
     by_cases hlt:k<n
     ·obtain ⟨h0,h1,h3,-⟩:=HMs.out.2 k hlt
      have hki:(k:Int)<(n:Int):=by omega
      have hm1:=Hb4.out (k+1) hlt
      have HT1:Hid (n+xl+memN D (k+1)=n+xl+memN D k+(D k).n):=by show _=_;rw [memN];omega
      have hm2:n+xl+memN D k+(D k).n≤10000:=by rw [←HT1.out];omega
      obtain ⟨y,hy⟩:∃ y,n+xl+memN D k=y:=⟨_,rfl⟩
      rw [hy] at HT1 hm2 ⊢
      obtain ⟨q,hq⟩:∃ q,(D k).n=q:=⟨_,rfl⟩
      rw [hq] at HT1 hm2 h3
      have hm3:(y:Int)≤10000:=by omega
      have hm4:(q:Int)≤10000:=by omega
      clear hy hq hm2 hm1 hm
      go_wp2_with fail
      go_roundg (n-(k+1))
      case measure=>omega
      case rel=>exact ⟨k+1,by omega,rfl,by go_num,by rw [HT1.out];go_num,rfl⟩
     ·have hke:k=n:=by omega
      subst hke
      rw [HZ.out]
      go_wp2_with fail
      go_ret
      exact ⟨rfl,onB HB0.out HB3.out⟩
 ·rw [errV_some hok] at h2
  generalize shE D n (lE xs)=c at h2
  generalize shV D n (lE xs)=S at h2
  clear hok HP
  go_wp2_with fail
  refine h2.mono ?_
  rintro e w2 ⟨rfl,hb2⟩
  have HB3:=hid_of (onB HB2.out hb2)
  clear h2 hb2 HB2 c1 c2
  go_wp2_with fail
  go_ret
  exact ⟨rfl,onB HB0.out HB3.out⟩
end Go.Proofs.YtpoklbfffgpbiaaGreatDoor
