/-
  What Print of package place answers, called in whatever memory: the names of a place, a dot between; by contracts of strings.Builder.
-/
import Derived.Shelf.Strings.BuilderK
import Derived.Deep.RegionLaw
import Derived.Test.YtpoklbfffgpbiaaGreatDoorJXAN
namespace Go.Proofs.YtpoklbfffgpbiaaGreatDoor
open Go.ChangeShapes Go.WideShapes Go.ChangeAt Go.RowKit
set_option maxRecDepth 20000
def Buil (B b:Nat) (l:List UInt8) (w:World):Prop:=Lib.IsBuilderF 58 5 B b (Lib.byteCells l) w
theorem ownF_stays {w w':World} {base e size:Nat} {v:Value} {n:Nat} {xs:List Value} (h:w.ownsRowF base e size v n xs) (hB:Below w.heap.size w w'):w'.ownsRowF base e size v n xs:=by
 refine ⟨h.1,?_⟩
 rcases h.2 with h0 | ⟨g,cap,cur,fz,rfl,hb,hg,h1⟩
 ·exact Or.inl h0
 ·exact Or.inr ⟨g,cap,cur,fz,rfl,hb,(hB.block g (Array.getElem?_eq_some_iff.1 hg).1).trans hg,h1⟩
theorem builF_later {T e B b:Nat} {p:Value} {bs:List Value} {w w':World} (h:Lib.BuilderAtF T e B b p bs w) (hB:Below w.heap.size w w'):Lib.BuilderAtF T e B b p bs w':=by
 obtain ⟨h1,v,h2,h3,h4⟩:=h
 exact ⟨h1,v,(hB.block b (Array.getElem?_eq_some_iff.1 h2).1).trans h2,ownF_stays h3 hB,h4⟩
theorem Buil.later {B b:Nat} {l:List UInt8} {w w':World} (h:Buil B b l w) (hB:Below w.heap.size w w'):Buil B b l w':=by
 rcases h with h | h
 ·exact Or.inl (builF_later h hB)
 ·exact Or.inr (builF_later h hB)
theorem Buil.fresh (w:World):Buil w.heap.size w.heap.size [] (w.alloc (.cells #[.pointer none,.slice none 0 0] 58)):=Lib.IsBuilderF.of (Lib.fresh_isBuilder 58 5 w)
theorem Buil.lt {B b:Nat} {l:List UInt8} {w:World} (h:Buil B b l w):b<w.heap.size:=by
 rcases h with ⟨_,v,h2,_⟩ | ⟨_,v,h2,_⟩ <;> exact (Array.getElem?_eq_some_iff.1 h2).1
theorem wstring_any (B b:Nat) (l:List UInt8) (s:ByteArray) (w:World) (h:Buil B b l w) (hlen:l.length+s.size≤1000) (hBw:B≤w.heap.size) :
  Calls Tryz.prog 13 #[.pointer (some ⟨b,0,none⟩),.string s] w fun e w'=>e=.returned (.tuple #[.int .i64 s.size,.nilIface])∧Buil B b (l ++ s.data.toList) w'∧Below B w w'∧Lib.OthersKept 5 (some b) w w':=by
 refine (Any.Builder_WriteString_k Tryz.lays166 Tryz.extra166 B b (Lib.byteCells l) s w h (by rw [Lib.byteCells_length];omega) hBw).mono fun e w' ⟨h1,h2,h3,h4⟩=>⟨h1,?_,h3,h4⟩
 unfold Buil
 rw [Lib.byteCells_append]
 exact Or.inr h2
theorem bstring_any (B b:Nat) (l:List UInt8) (w:World) (h:Buil B b l w) (hBw:B≤w.heap.size) :
  Calls Tryz.prog 20 #[.pointer (some ⟨b,0,none⟩)] w fun e w'=>e=.returned (.string ⟨l.toArray⟩)∧Below B w w' :=
 (Any.Builder_String_any_k Tryz.lays169 Tryz.extra169 B b l w h hBw).mono fun _ _ ⟨h1,_,h3,_⟩=>⟨h1,h3⟩
theorem kept_dim {b c:Nat} {w w':World} {cs:Array Value} {T:Nat} (h:Lib.OthersKept 5 (some b) w w') (hc:w.heap[c]?=some (.cells cs T (0,0))) (hne:c≠b) (hT:T≠5):w'.heap[c]?=some (.cells cs T (0,0)) :=
 h c _ hc (fun e=>hne (Option.some.inj e)) (fun _ _ e=>by simp only [Obj.cells.injEq] at e;exact hT e.2.1)
set_option maxHeartbeats 4000000 in
theorem pprint_any (A0:Option Addr) (cap n:Nat) (D:Nat→Dm) (A:Nat→Option Addr) (C:Nat→Nat) (Ap:Option Addr) (cp:Nat) (L:List Int) (w:World) (hM:DimsV w A0 cap n D A C) (hP:PlAt w Ap cp L):Calls Tryz.prog 19 #[.agg #[.slice A0 n cap],.slice Ap L.length cp] w fun e w'=>e=.returned (.tuple #[.string (textV D n L),errV (placeErr D n L)])∧Below w.heap.size w w':=by
 have hB0:=ownOut_below w A0 n cap 24
 have h:=pcheck_any A0 cap n D A C Ap cp L (ownOut w A0 n cap 24) (hM.later hB0) (hP.later hB0)
 have HB0:Hid (Below w.heap.size w (ownOut w A0 n cap 24)):=hB0
 have HM:Hid (DimsV w A0 cap n D A C):=hM
 have HP:Hid (PlAt w Ap cp L):=hP
 clear hM hB0 hP
 by_cases he:placeErr D n L=0
 ·have HI:Hid (InO D n L):=inO_of he
  have HV:Hid (textV D n L=⟨(textTo D L n).toArray⟩):=by show _=_;unfold textV;rw [if_pos he]
  have HE:Hid (errV (placeErr D n L)=.nilIface):=by show _=_;rw [he];rfl
  rw [he,errV_zero] at h
  obtain ⟨hn1,hn4,-,hd⟩:=allErr_some HI.out.right
  have HD:Hid (∀ i,i<n→1≤(D i).n∧(D i).n≤12):=hd
  have hn':(n:Int)≤4:=by omega
  have hl:=HI.out.len
  obtain ⟨hcp,h0 | ⟨bp,op,rfl,hbp,hcell⟩⟩:=HP.out
  ·rw [h0] at hl;simp at hl;omega
  rw [hl] at h hcp
  rw [hl]
  have HC:Hid (∀ j,j<n→w.cell? ⟨bp,op+j,none⟩=some (.int .i64 (L.getD j 0))):=fun j hj=>hcell j (by omega)
  clear he hd hl hcell
  go_enter Tryz.func19,Tryz.ntmps19
  go_wp2_with fail
  refine h.mono ?_
  rintro e w1 ⟨rfl,hb1⟩
  have hB:Below w.heap.size w w1:=onB HB0.out hb1
  have h2:w1.cell? ⟨w.heap.size,0,none⟩=some (.slice A0 n cap):=(hb1.cell (p:=⟨w.heap.size,0,none⟩) (by show w.heap.size<_;rw [ownOut_size];omega)).trans (ownOut_at ..)
  obtain ⟨hcap,h0 | ⟨b,o,rfl,hMs⟩⟩:=HM.out.later hB
  ·omega
  have HMs:Hid (DimsAt w1 b o n D A C):=hMs
  have HB:Hid (Below w.heap.size w w1):=hB
  have hz:w.heap.size<w1.heap.size:=by have:=hb1.size;rw [ownOut_size] at this;omega
  have HBu:Hid (Buil w1.heap.size w1.heap.size [] (w1.alloc (.cells #[.pointer none,.slice none 0 0] 58))):=Buil.fresh w1
  clear hb1 h hMs hB
  go_wp2_with fail
  go_loopg [19] n (fun g s19 wr => ∃ (k:Nat),k≤n∧g=n-k∧s19=.int .i64 k∧Buil w1.heap.size w1.heap.size (textTo D L k) wr∧Below w1.heap.size w1 wr)
  case atStart=>exact ⟨0,Nat.zero_le _,rfl,rfl,HBu.out,by go_grown⟩
  case round =>
   obtain ⟨k,hk,rfl,rfl,hBu,hBw⟩:=hrel
   have HW:Hid (Below w1.heap.size w1 wr):=hBw
   have HU:Hid (Buil w1.heap.size w1.heap.size (textTo D L k) wr):=hBu
   by_cases hlt:k<n
   ·obtain ⟨h0,h1,h3,-⟩:=(HMs.out.later hBw).2 k hlt
    obtain ⟨-,-,-,h4⟩:=HMs.out.2 k hlt
    have hki:(k:Int)<(n:Int):=by omega
    obtain ⟨hd1,hd2⟩:=HD.out k hlt
    have hx0:=HI.out.lo k hlt
    have hx1:=HI.out.hi k hlt
    have hnm:=(HI.out.name hlt).2
    have htx:=HI.out.short (k:=k) (by omega)
    have hcx:wr.cell? ⟨bp,op+k,none⟩=some (.int .i64 (L.getD k 0)):=((onB HB.out hBw).cell (p:=⟨bp,op+k,none⟩) hbp).trans (HC.out k hlt)
    have hbpz:bp<wr.heap.size:=World.block_lt_of_cell? _ _ hcx
    obtain ⟨X,hX⟩:∃ X:Nat,L.getD k 0=X:=⟨(L.getD k 0).toNat,by omega⟩
    have HNB:Hid (nameB D L k=((D k).mem X).name):=by show _=_;unfold nameB;rw [hX];rfl
    rw [hX] at hx0 hx1 hcx
    rw [HNB.out] at hnm
    have hXn:X<(D k).n:=by omega
    obtain ⟨hcm,h5 | ⟨b',o',hA,hMm⟩⟩:=h4
    ·omega
    have hb'1:b'<w1.heap.size:=hMm.1
    have hb'z:b'<wr.heap.size:=Nat.lt_of_lt_of_le hb'1 hBw.size
    have hn0:=(hBw.cell (p:=⟨b',o'+X*4,none⟩) hb'1).trans (hMm.2 X hXn).1
    have hbp1:bp<w1.heap.size:=Nat.lt_of_lt_of_le hbp HB.out.size
    rw [hA] at h3
    have HT:Hid (textTo D L (k+1)=textTo D L k ++ ((if k=0 then [] else [46]) ++ ((D k).mem X).name.data.toList)):=by show _=_;rw [textTo,HNB.out]
    generalize ((D k).mem X).name=nm at hn0 hnm HT
    generalize (D k).name=dn at h0
    generalize (D k).solve=ds at h1
    generalize (D k).n=m at h3 hx1 hXn hd1 hd2 hcm
    have hXi:(X:Int)<(m:Int):=by omega
    have hm12:(m:Int)≤12:=by omega
    have hBz:=hBw.size
    have hbu:=hBu.lt
    clear hBw hBu hX hMm hA
    by_cases hk0:k=0
    ·have hkd:decide ((0:Int)<(k:Int))=false:=decide_eq_false (by omega)
     have hkd':decide (0<k)=false:=decide_eq_false (by omega)
     obtain ⟨w2,hw2⟩:∃ w2,w2=wr.alloc (.cells #[.string dn,.int .i64 ds,.slice (some ⟨b',o',none⟩) m (C k)] 32):=⟨_,rfl⟩
     have hBo:Below wr.heap.size wr w2:=by rw [hw2];go_grown
     have HWs:Hid (∀ w',Below w2.heap.size w2 w'→Calls Tryz.prog 13 #[.pointer (some ⟨w1.heap.size,0,none⟩),.string nm] w' fun e w''=>e=.returned (.tuple #[.int .i64 nm.size,.nilIface])∧Buil w1.heap.size w1.heap.size (textTo D L (k+1)) w''∧Below w1.heap.size w1 w''):=fun w' hw'=>by
      have hB':=onB hBo hw'
      refine (wstring_any _ _ _ nm w' (HU.out.later hB') (by omega) (by have:=hB'.size;omega)).mono fun e w'' ⟨a1,a2,a3,_⟩=>⟨a1,?_,(onB HW.out hB').trans a3⟩
      rw [HT.out,if_pos hk0,List.nil_append]
      exact a2
     have HW2:Hid (w2=wr.alloc (.cells #[.string dn,.int .i64 ds,.slice (some ⟨b',o',none⟩) m (C k)] 32)):=hw2
     clear hBo hw2 hk0
     go_wp2_with fail
     go_region_law ((go_simp;refine (HWs.out _ (by rw [HW2.out];go_grown)).mono ?_;rintro e w3 ⟨rfl,hB3,hb3⟩))
     all_goals go_wp2_with fail
     all_goals go_roundg (n-(k+1))
     all_goals first | omega | exact ⟨k+1,by omega,rfl,by go_num,hB3,hb3⟩
    ·have hkd:(0:Int)<(k:Int):=by omega
     obtain ⟨wc,hwc⟩:∃ wc,wc=wr.alloc (.cells #[.string dn,.int .i64 ds,.slice (some ⟨b',o',none⟩) m (C k)] 32):=⟨_,rfl⟩
     have hBo:Below wr.heap.size wr wc:=by rw [hwc];go_grown
     have hcz:wc.heap[wr.heap.size]?=some (.cells #[.string dn,.int .i64 ds,.slice (some ⟨b',o',none⟩) m (C k)] 32 (0,0)):=by rw [hwc];exact heap_alloc_new wr _
     have hws:=wstring_any w1.heap.size w1.heap.size (textTo D L k) ⟨#[46]⟩ wc (HU.out.later hBo) (by show _+1≤1000;omega) (by have:=hBo.size;omega)
     have HBo:Hid (Below w1.heap.size w1 wc):=onB HW.out hBo
     have HK0:Hid (¬ k=0):=hk0
     rw [hwc] at hws
     have HWC:Hid (wc=wr.alloc (.cells #[.string dn,.int .i64 ds,.slice (some ⟨b',o',none⟩) m (C k)] 32)):=hwc
     clear hBo hk0 hwc
     go_wp2_with fail
     refine hws.mono ?_
     rintro e w2 ⟨rfl,hB2,hb2,hK2⟩
     rw [←HWC.out] at hb2 hK2
     have hB12:Below w1.heap.size w1 w2:=HBo.out.trans hb2
     have hc2:=kept_dim hK2 hcz (by omega) (by decide)
     have e2:w2.cell? ⟨wr.heap.size,2,none⟩=some (.slice (some ⟨b',o',none⟩) m (C k)):=by rw [Lib.cell_of_heap hc2];rfl
     have hwz:wr.heap.size<w2.heap.size:=(Array.getElem?_eq_some_iff.1 hc2).1
     have ex:w2.cell? ⟨bp,op+k,none⟩=some (.int .i64 X):=by
      rw [hb2.cell (p:=⟨bp,op+k,none⟩) hbp1,HWC.out,World.cell?_alloc_lt _ _ ⟨bp,op+k,none⟩ hbpz];exact hcx
     have en:w2.cell? ⟨b',o'+X*4,none⟩=some (.string nm):=by
      rw [hb2.cell (p:=⟨b',o'+X*4,none⟩) hb'1,HWC.out,World.cell?_alloc_lt _ _ ⟨b',o'+X*4,none⟩ hb'z];exact hn0
     have HWs:Hid (∀ w',Below w2.heap.size w2 w'→Calls Tryz.prog 13 #[.pointer (some ⟨w1.heap.size,0,none⟩),.string nm] w' fun e w''=>e=.returned (.tuple #[.int .i64 nm.size,.nilIface])∧Buil w1.heap.size w1.heap.size (textTo D L (k+1)) w''∧Below w1.heap.size w1 w''):=fun w' hw'=>by
      refine (wstring_any _ _ _ nm w' (hB2.later hw') (by rw [List.length_append];show _+1+_≤1000;omega) (by have:=hw'.size;omega)).mono fun e w'' ⟨a1,a2,a3,_⟩=>⟨a1,?_,(onB hB12 hw').trans a3⟩
      rw [HT.out,if_neg HK0.out,←List.append_assoc]
      exact a2
     clear hws hB2 hb2 hK2 hc2 hcz hcx hn0 h0 h1 h3 hB12
     go_wp2_with fail
     go_region_law ((go_simp;refine (HWs.out _ (by go_grown)).mono ?_;rintro e w3 ⟨rfl,hB3,hb3⟩))
     all_goals go_wp2_with fail
     all_goals go_roundg (n-(k+1))
     all_goals first | omega | exact ⟨k+1,by omega,rfl,by go_num,hB3,hb3⟩
   ·have hke:k=n:=by omega
    subst hke
    have hst:=bstring_any w1.heap.size w1.heap.size (textTo D L k) wr hBu (by have:=hBw.size;omega)
    clear hBu hBw
    go_wp2_with fail
    refine hst.mono ?_
    rintro e w2 ⟨rfl,hb2⟩
    go_wp2_with fail
    go_ret2
    rw [HV.out,HE.out]
    exact ⟨rfl,onB HB.out (HW.out.trans hb2)⟩
 ·have HV:Hid (textV D n L=⟨#[]⟩):=by show _=_;unfold textV;rw [if_neg he]
  have HE:Hid (errV (placeErr D n L)=.iface 70 (.int .i64 (placeErr D n L))):=errV_some he
  rw [errV_some he] at h
  clear he
  generalize placeErr D n L=c at h HE
  generalize L.length=m at h
  go_enter Tryz.func19,Tryz.ntmps19
  go_wp2_with fail
  refine h.mono ?_
  rintro e w1 ⟨rfl,hb1⟩
  go_wp2_with fail
  go_ret2
  rw [HV.out,HE.out]
  exact ⟨rfl,onB HB0.out hb1⟩
end Go.Proofs.YtpoklbfffgpbiaaGreatDoor
