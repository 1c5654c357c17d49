/-
  What Leaf of package place answers, called in whatever memory: whether a place is of leafs, or what is wrong.
-/
import Derived.Lib.SplitLaws
import Derived.Lib.IndexLaws
import Derived.Test.YtinebmjpdkjooaaGreatDoorShelfS
import Derived.Shelf.Strings.Search3
import Derived.Shelf.Strings.Count
import Derived.Shelf.Strings.Builder1
import Derived.Test.YtinebmjpdkjooaaGreatDoorJZAK
namespace Go.Proofs.YtinebmjpdkjooaaGreatDoor
open Go.ChangeShapes Go.WideShapes Go.ChangeAt Go.RowKit
set_option maxRecDepth 20000
def notLeaf (D:Nat→Dm) (L:List Int) (i:Nat):Bool := !leafB (D i).mem (D i).n (L.getD i 0).toNat
def leafV (D:Nat→Dm) (n:Nat) (L:List Int):Bool:=if placeErr D n L=0 then !decide (0≤findFrom (notLeaf D L) n 0) else false
theorem pleaf1_in:EntersO 92:=fun args w=>by simp [callFunc,Tryz.func92];rfl
set_option maxHeartbeats 2000000 in
theorem pleaf1_any (b o n cap k q r bp op cp X:Nat) (D:Nat→Dm) (A:Nat→Option Addr) (C:Nat→Nat) (w:World) (hk:k<n) (hn:n≤4) (hd:(dimErr (D k)).2=0) (hX:X<(D k).n) (hM:DimsAt w b o n D A C) (hx:w.cell? ⟨bp,op+k,none⟩=some (.int .i64 X)) (hq:w.cell? ⟨q,0,none⟩=some (.slice (some ⟨b,o,none⟩) n cap)) (hr:w.cell? ⟨r,0,none⟩=some (.slice (some ⟨bp,op,none⟩) n cp)) :
  Calls Tryz.prog 92 #[.int .i64 k,.pointer (some ⟨q,0,none⟩),.pointer (some ⟨r,0,none⟩)] w fun e w'=>e=.returned (.bool (!leafB (D k).mem (D k).n X))∧Below w.heap.size w w':=by
 obtain ⟨h0,h1,h3,h4⟩:=hM.2 k hk
 have hki:(k:Int)<(n:Int):=by omega
 have hn':(n:Int)≤4:=by omega
 have hte:treeErr (D k) [(X:Int)]=0:=by rw [treeErr_one hd,if_neg (by omega)]
 have hlf:lfOf (D k) (X:Int)=leafB (D k).mem (D k).n X:=by simp [lfOf,hte]
 have HLf:Hid (∀ w',Below w.heap.size w w'→Calls Tryz.prog 93 #[.agg #[.string (D k).name,.int .i64 (D k).solve,.slice (A k) (D k).n (C k)],.int .i64 X] w' fun e w''=>e=.returned (.tuple #[.bool (leafB (D k).mem (D k).n X),.nilIface])∧Below w'.heap.size w' w''):=fun w' hw'=>by
  have h:=tleaf_any (D k) (A k) (C k) X w' (h4.later hw')
  rw [hte,hlf,errV_zero] at h
  exact h
 generalize leafB (D k).mem (D k).n X=y at HLf
 clear hM h4 hte hlf hd
 go_enter Tryz.func92,Tryz.ntmps92
 go_wp2_with fail
 go_region_law ((go_simp;refine (HLf.out _ (by go_grown)).mono ?_;rintro e w2 ⟨rfl,hb2⟩;have hN2:=onB (W0:=w) (by go_grown) hb2;clear hb2))
 all_goals go_wp2_with fail
 all_goals go_ret
 all_goals exact ⟨rfl,hN2⟩
set_option maxHeartbeats 4000000 in
theorem pleaf_any (A0:Option Addr) (cap n:Nat) (D:Nat→Dm) (A:Nat→Option Addr) (C:Nat→Nat) (Ap:Option Addr) (cp:Nat) (L:List Int) (w:World) (hM:DimsV w A0 cap n D A C) (hP:PlAt w Ap cp L):Calls Tryz.prog 60 #[.agg #[.slice A0 n cap],.slice Ap L.length cp] w fun e w'=>e=.returned (.tuple #[.bool (leafV D n L),errV (placeErr D n L)])∧Below w.heap.size w w':=by
 have hB0:=ownOP_below w A0 n cap Ap L.length cp 24 49
 have h:=pcheck_any A0 cap n D A C Ap cp L (ownOP w A0 n cap Ap L.length cp 24 49) (hM.later hB0) (hP.later hB0)
 have HB0:Hid (Below w.heap.size w (ownOP w A0 n cap Ap L.length cp 24 49)):=hB0
 have HM:Hid (DimsV w A0 cap n D A C):=hM
 have HP:Hid (PlAt w Ap cp L):=hP
 clear hM hB0 hP
 by_cases he:placeErr D n L=0
 ·have HI:Hid (InO D n L):=inO_of he
  have HV:Hid (leafV D n L = !decide (0≤findFrom (notLeaf D L) n 0)):=by show _=_;unfold leafV;rw [if_pos he]
  have HE:Hid (errV (placeErr D n L)=.nilIface):=by show _=_;rw [he];rfl
  rw [he,errV_zero] at h
  obtain ⟨hn1,hn4,-,-⟩:=allErr_some HI.out.right
  have hn':(n:Int)≤4:=by omega
  have hl:=HI.out.len
  obtain ⟨hcp,h0 | ⟨bp,op,rfl,hbp,hcell⟩⟩:=HP.out
  ·rw [h0] at hl;simp at hl;omega
  rw [hl] at h HB0
  rw [hl]
  have HC:Hid (∀ j,j<n→w.cell? ⟨bp,op+j,none⟩=some (.int .i64 (L.getD j 0))):=fun j hj=>hcell j (by omega)
  clear he hl hcell hcp
  go_enter Tryz.func60,Tryz.ntmps60
  go_wp2_with fail
  refine h.mono ?_
  rintro e w1 ⟨rfl,hb1⟩
  have hB:Below w.heap.size w w1:=onB HB0.out hb1
  have hz:w.heap.size+1<w1.heap.size:=by have:=hb1.size;rw [ownOP_size] at this;omega
  have ho:w1.cell? ⟨w.heap.size,0,none⟩=some (.slice A0 n cap):=(hb1.cell (p:=⟨w.heap.size,0,none⟩) (by show w.heap.size<_;rw [ownOP_size];omega)).trans (ownOP_o ..)
  have hp:w1.cell? ⟨w.heap.size+1,0,none⟩=some (.slice (some ⟨bp,op,none⟩) n cp):=(hb1.cell (p:=⟨w.heap.size+1,0,none⟩) (by show w.heap.size+1<_;rw [ownOP_size];omega)).trans (ownOP_p ..)
  obtain ⟨hcap,h0 | ⟨b,o,rfl,hMs⟩⟩:=HM.out.later hB
  ·omega
  have hany:=anydim_any 92 w.heap.size (w.heap.size+1) pleaf1_in (some ⟨b,o,none⟩) n cap (notLeaf D L) w1 hn4 (fun j w' hj hw'=>by
   have hlo:=HI.out.lo j hj
   have hhi:=HI.out.hi j hj
   have e1:L.getD j 0=((L.getD j 0).toNat:Int):=by omega
   have hcj:=((onB hB hw').cell (p:=⟨bp,op+j,none⟩) hbp).trans (HC.out j hj)
   rw [e1] at hcj
   exact pleaf1_any b o n cap j w.heap.size (w.heap.size+1) bp op cp (L.getD j 0).toNat D A C w' hj hn4 ((allErr_right HI.out.right).2 j hj) (by omega) (hMs.later hw') hcj ((hw'.cell (p:=⟨w.heap.size,0,none⟩) (by show w.heap.size<_;omega)).trans ho) ((hw'.cell (p:=⟨w.heap.size+1,0,none⟩) hz).trans hp))
  have HB:Hid (Below w.heap.size w w1):=hB
  generalize decide (0≤findFrom (notLeaf D L) n 0)=y at hany HV
  clear hb1 h hMs hB
  go_wp2_with fail
  refine hany.mono ?_
  rintro e w2 ⟨rfl,hb2⟩
  go_wp2_with fail
  go_ret2
  rw [HV.out,HE.out]
  exact ⟨rfl,onB HB.out hb2⟩
 ·have HV:Hid (leafV D n L=false):=by show _=_;unfold leafV;rw [if_neg he]
  have HE:Hid (errV (placeErr D n L)=.iface 65 (.int .i64 (placeErr D n L))):=errV_some he
  rw [errV_some he] at h
  clear he
  generalize placeErr D n L=c at h HE
  generalize L.length=m at h HB0
  go_enter Tryz.func60,Tryz.ntmps60
  go_wp2_with fail
  refine h.mono ?_
  rintro e w1 ⟨rfl,hb1⟩
  go_wp2_with fail
  go_ret2
  rw [HV.out,HE.out]
  exact ⟨rfl,onB HB0.out hb1⟩
theorem cut_count (c:UInt8) (l:List UInt8):(cutB c l).length=Lib.countByte l c+1:=by
 unfold Lib.countByte
 induction l with
 | nil=>rfl
 | cons x t ih =>
  rw [cutB]
  by_cases h:x=c
  ·rw [if_pos h,List.length_cons,ih,h,List.count_cons_self]
  ·rw [if_neg h,List.count_cons_of_ne (by simpa using h)]
   cases hs:cutB c t with
   | nil=>exact absurd hs (cutB_ne c t)
   | cons a r=>rw [hs] at ih;simpa using ih
theorem cut_miss {c:UInt8} {l:List UInt8} (h:Lib.indexByte l c = -1):cutB c l=[l]:=by
 refine cut_none fun hm=>?_
 obtain ⟨i,hi,he⟩:=List.getElem_of_mem hm
 exact Lib.indexByte_none h i (by rw [List.getElem?_eq_getElem hi,he])
theorem cut_hit {c:UInt8} {l:List UInt8} {o:Nat} (h:Lib.indexByte l c=o):o<l.length∧cutB c l=l.take o :: cutB c (l.drop (o+1)):=by
 obtain ⟨h1,h2⟩:=Lib.indexByte_some h
 obtain ⟨ho,he⟩:=List.getElem?_eq_some_iff.1 h1
 refine ⟨ho,?_⟩
 have e:l=l.take o ++ c :: l.drop (o+1):=by
  rw [←he,←List.drop_eq_getElem_cons ho,List.take_append_drop]
 have hn:c∉l.take o:=fun hm=>by
  obtain ⟨i,hi,hv⟩:=List.getElem_of_mem hm
  have hio:i<o:=by simp at hi;omega
  exact h2 i hio (by rw [List.getElem?_eq_getElem (by omega)];simpa using hv)
 conv=>lhs;rw [e]
 exact cut_ahead hn _
theorem byte_ext {x:ByteArray} {l:List UInt8} (h:x.data.toList=l):(⟨l.toArray⟩:ByteArray)=x:=by
 subst h
 cases x
 simp
theorem pieces_one {x:ByteArray} (h:Lib.indexByte x.data.toList 46 = -1):pieces x=[x]:=by
 unfold pieces
 rw [cut_miss h,List.map_singleton,byte_ext rfl]
theorem pieces_more {x:ByteArray} {i:Nat} (h:Lib.indexByte x.data.toList 46=i):i+1≤x.size∧pieces x=x.extract 0 i :: pieces (x.extract (i+1) x.size):=by
 obtain ⟨h1,h2⟩:=cut_hit h
 have hsz:x.data.toList.length=x.size:=by simp
 refine ⟨by omega,?_⟩
 unfold pieces
 rw [h2,List.map_cons,byte_ext (Lib.extract_from_zero x i),Lib.extract_to_end]
theorem pieces_pos (x:ByteArray):1≤(pieces x).length:=by
 unfold pieces
 rw [List.length_map,cut_count]
 omega
theorem pieces_count (x:ByteArray):(pieces x).length=Lib.countByte x.data.toList 46+1:=by
 unfold pieces
 rw [List.length_map,cut_count]
theorem pieces_le (x:ByteArray):(pieces x).length≤x.size+1:=by
 rw [pieces_count]
 unfold Lib.countByte
 have:=List.count_le_length (a:=(46:UInt8)) (l:=x.data.toList)
 have hsz:x.data.toList.length=x.size:=by simp
 omega
theorem pieces_last {x:ByteArray} (h:(pieces x).length=1):pieces x=[x]:=by
 have h1:=Lib.indexByte_ge x.data.toList 46
 by_cases h2:Lib.indexByte x.data.toList 46 = -1
 ·exact pieces_one h2
 ·obtain ⟨i,hi⟩:∃ i:Nat,Lib.indexByte x.data.toList 46=i:=⟨(Lib.indexByte x.data.toList 46).toNat,by omega⟩
  have h3:=(pieces_more hi).2
  have h4:=pieces_pos (x.extract (i+1) x.size)
  rw [h3,List.length_cons] at h
  omega
theorem pieces_dot {x:ByteArray} (h:2≤(pieces x).length):∃ i:Nat,Lib.indexByte x.data.toList 46=i∧i+1≤x.size∧pieces x=x.extract 0 i :: pieces (x.extract (i+1) x.size):=by
 have h1:=Lib.indexByte_ge x.data.toList 46
 by_cases h2:Lib.indexByte x.data.toList 46 = -1
 ·rw [pieces_one h2] at h;simp at h
 ·obtain ⟨i,hi⟩:∃ i:Nat,Lib.indexByte x.data.toList 46=i:=⟨(Lib.indexByte x.data.toList 46).toNat,by omega⟩
  exact ⟨i,hi,pieces_more hi⟩
def piecesC (c:UInt8) (s:ByteArray):List ByteArray:=(cutB c s.data.toList).map fun l=>⟨l.toArray⟩
theorem piecesC_pos (c:UInt8) (x:ByteArray):1≤(piecesC c x).length:=by
 unfold piecesC
 rw [List.length_map,cut_count]
 omega
theorem piecesC_le (c:UInt8) (x:ByteArray):(piecesC c x).length≤x.size+1:=by
 unfold piecesC
 rw [List.length_map,cut_count]
 unfold Lib.countByte
 have:=List.count_le_length (a:=c) (l:=x.data.toList)
 have hsz:x.data.toList.length=x.size:=by simp
 omega
theorem Tryz.infoStr:(Tryz.prog.info? 9).map (fun i=>(i.zero,i.size,i.bytes))=some (some (.string ByteArray.empty),1,16):=by kernel_rfl
end Go.Proofs.YtinebmjpdkjooaaGreatDoor
namespace Go.Proofs.YtinebmjpdkjooaaGreatDoor
open Go.ChangeShapes Go.WideShapes Go.ChangeAt Go.RowKit
theorem mem_nameG {D:Nat→Dm} {n:Nat} {A:Nat→Option Addr} {C:Nat→Nat} {cap d od:Nat} {w:World} (hM:DimsV w (some ⟨d,od,none⟩) cap n D A C) {kc y:Nat} (hk:kc<n) (hy:y<(D kc).n):∃ bm om,w.cell? ⟨d,od+kc*3+2,none⟩=some (.slice (some ⟨bm,om,none⟩) (D kc).n (C kc))∧w.cell? ⟨bm,om+y*4,none⟩=some (.string ((D kc).mem y).name):=by
 obtain ⟨-,h0 | ⟨b,o,e,hD⟩⟩:=hM
 ·omega
 ·cases e
  obtain ⟨-,-,h3,-,h4 | ⟨bm,om,e2,hm⟩⟩:=hD.2 kc hk
  ·omega
  ·rw [e2] at h3
   exact ⟨bm,om,h3,(hm.2 y hy).1⟩
theorem name_small {D:Nat→Dm} {n:Nat} (h:(allErr D n).2.2=0) {i j:Nat} (hi:i<n) (hj:j<(D i).n):((D i).mem j).name.size≤30:=by
 have h1:=(dimErr_right ((allErr_right h).2 i hi)).2.2.2 j hj
 have h2:nameErr ((D i).mem j).name=0:=by
  unfold memErr at h1
  split at h1
  ·cases h1
  ·rename_i h3;simpa using h3
 unfold nameErr at h2
 split at h2
 ·cases h2
 ·omega
end Go.Proofs.YtinebmjpdkjooaaGreatDoor
namespace Go.Proofs.YtinebmjpdkjooaaGreatDoor
open Go.ChangeShapes Go.WideShapes Go.ChangeAt Go.RowKit
set_option maxRecDepth 20000
def badW (x:UInt8):Bool:=x == 61 || x == 46
def nmW (s:ByteArray):Bool := !s.data.toList.any badW && !s.data.toList.isEmpty
theorem byte_atS {s:ByteArray} {k:Nat} (hk:k<s.size):s.data.toList[k]?=some s[k]:=by
 rw [List.getElem?_eq_getElem (by simpa using hk)]
 rfl
theorem any_takeW {s:ByteArray} {k:Nat} (hk:k<s.size) (h:(s.data.toList.take k).any badW=false):(s.data.toList.take (k+1)).any badW=badW s[k]:=by
 rw [List.take_add_one,List.any_append,h,byte_atS hk]
 simp
set_option maxHeartbeats 4000000 in
theorem rnamed_any (s:ByteArray) (w:World) (hs:s.size≤1048576):Calls Tryz.prog 29 #[.string s] w fun e w'=>e=.returned (.bool (nmW s))∧Below w.heap.size w w':=by
 have hs':(s.size:Int)≤1048576:=by omega
 go_enter Tryz.func29,Tryz.ntmps29
 go_wp2_with fail
 go_loopg [3] s.size (fun g s3 wr => ∃ k:Nat,k≤s.size∧g=s.size-k∧s3=.int .i64 k∧Hid ((s.data.toList.take k).any badW=false)∧wr=w)
 case atStart=>exact ⟨0,Nat.zero_le _,rfl,rfl,by show _=_;simp,rfl⟩
 case round =>
  obtain ⟨k,hk,rfl,rfl,HA,rfl⟩:=hrel
  by_cases hlt:k<s.size
  ·have hki:(k:Int)<(s.size:Int):=by omega
   by_cases h1:s[k]=61
   ·have hb1:((s[k].toNat:Int) == 61)=true:=by rw [h1];rfl
    have HB:Hid (nmW s=false):=by
     show _=_
     unfold nmW
     have:s.data.toList.any badW=true:=List.any_eq_true.2 ⟨s[k],List.mem_of_getElem? (byte_atS hlt),by rw [h1];rfl⟩
     rw [this];rfl
    clear h1
    go_wp2_with fail
    go_ret
    exact ⟨by rw [HB.out];rfl,Below.refl _ _⟩
   ·have hn1 : ¬ (s[k].toNat:Int)=61:=fun e=>h1 (UInt8.toNat_inj.1 (by show s[k].toNat=61;omega))
    have hb1:((s[k].toNat:Int) == 61)=false:=by simpa using hn1
    by_cases h2:s[k]=46
    ·have hb2:((s[k].toNat:Int) == 46)=true:=by rw [h2];rfl
     have HB:Hid (nmW s=false):=by
      show _=_
      unfold nmW
      have:s.data.toList.any badW=true:=List.any_eq_true.2 ⟨s[k],List.mem_of_getElem? (byte_atS hlt),by rw [h2];rfl⟩
      rw [this];rfl
     clear h1 h2 hn1
     go_wp2_with fail
     go_ret
     exact ⟨by rw [HB.out];rfl,Below.refl _ _⟩
    ·have hn2 : ¬ (s[k].toNat:Int)=46:=fun e=>h2 (UInt8.toNat_inj.1 (by show s[k].toNat=46;omega))
     have hb2:((s[k].toNat:Int) == 46)=false:=by simpa using hn2
     have HN:Hid ((s.data.toList.take (k+1)).any badW=false):=by
      show _=_
      rw [any_takeW hlt HA.out]
      unfold badW
      simp [h1,h2]
     clear h1 h2 hn1 hn2
     go_wp2_with fail
     go_roundg (s.size-(k+1))
     case measure=>omega
     case rel=>exact ⟨k+1,by omega,rfl,by go_num,HN,rfl⟩
  ·have hke:k=s.size:=by omega
   subst hke
   have ha:s.data.toList.any badW=false:=by
    have:=HA.out
    rwa [List.take_of_length_le (by simp)] at this
   obtain ⟨b,hb⟩:∃ b,s.toList.isEmpty=b:=⟨_,rfl⟩
   have HB:Hid (nmW s = !b):=by
    show _=_
    unfold nmW
    rw [ha,←hb,ByteArray.toList_eq]
    rfl
   clear ha HA
   cases b
   ·go_wp2_with fail
    go_ret
    exact ⟨by rw [HB.out];simp,Below.refl _ _⟩
   ·have hb2:s.toList=[]:=List.isEmpty_iff.1 hb
    go_wp2_with fail
    go_ret
    exact ⟨by rw [HB.out];simp,Below.refl _ _⟩
theorem textTo_len {D:Nat→Dm} {n:Nat} {L:List Int} (h:InO D n L):∀ k,k≤n→(textTo D L k).length≤k*31
 | 0,_=>by simp [textTo]
 | k+1,hk=>by
  have h1:=textTo_len h k (by omega)
  have h2:(nameB D L k).size≤30:=name_small h.right (by omega) (by have:=h.lo k (by omega);have:=h.hi k (by omega);omega)
  have h3:(nameB D L k).data.toList.length=(nameB D L k).size:=by simp
  rw [textTo,List.length_append,List.length_append]
  split <;> simp at * <;> omega
theorem str_add (a:List UInt8) (b:ByteArray):(⟨a.toArray⟩:ByteArray) ++ b=⟨(a ++ b.data.toList).toArray⟩:=by
 apply ByteArray.ext
 apply Array.toList_inj.1
 simp [ByteArray.data_append]
set_option maxHeartbeats 4000000 in
theorem rptext_any (A0:Option Addr) (cap n:Nat) (D:Nat→Dm) (A:Nat→Option Addr) (C:Nat→Nat) (Ap:Option Addr) (cp:Nat) (L:List Int) (w:World) (hI:InO D n L) (hM:DimsV w A0 cap n D A C) (hP:PlAt w Ap cp L):Calls Tryz.prog 15 #[.agg #[.slice A0 n cap],.slice Ap L.length cp] w fun e w'=>e=.returned (.string ⟨(textTo D L n).toArray⟩)∧Below w.heap.size w w':=by
 have hB0:=ownOut_below w A0 n cap 24
 have hat:=ownOut_at w A0 n cap 24
 have hsz:=ownOut_size w A0 n cap 24
 obtain ⟨W,hW⟩:∃ W,ownOut w A0 n cap 24=W:=⟨_,rfl⟩
 rw [hW] at hB0 hat hsz
 unfold ownOut at hW
 have hM0:=hM
 obtain ⟨hn1,hn4,-,hd⟩:=allErr_some hI.right
 obtain ⟨-,h0 | ⟨d,od,rfl,-⟩⟩:=hM0
 ·omega
 have HI:=hid_of hI
 have hPW:=hP.later hB0
 obtain ⟨-,h1 | ⟨bp,op,rfl,hbl,hcell⟩⟩:=hPW
 ·have:=hI.len;rw [h1] at this;simp at this;omega
 have HM:=hid_of (hM.later hB0)
 have HC:=hid_of hcell
 have HB:=hid_of hB0
 obtain ⟨m,hm⟩:∃ m,L.length=m:=⟨_,rfl⟩
 have hmn:m=n:=by rw [←hm];exact hI.len
 have HMn:=hid_of hmn
 rw [hm]
 have hm4:(m:Int)≤4:=by omega
 have hml:m≤4:=by omega
 clear hM hP hI hcell hB0 hd hmn hn1 hn4
 go_enter Tryz.func15,Tryz.ntmps15
 go_wp2_with fail
 go_loopg [5,6] m (fun g s5 s6 wr => ∃ k:Nat,k≤m∧g=m-k∧s6=.int .i64 k∧s5=.string ⟨(textTo D L k).toArray⟩∧Hid (Below W.heap.size W wr))
 case atStart=>exact ⟨0,Nat.zero_le _,rfl,rfl,rfl,hid_of (Below.refl _ _)⟩
 case round =>
  obtain ⟨k,hk,rfl,rfl,rfl,HBw⟩:=hrel
  have HT:=hid_of (textTo_len HI.out k (by rw [←HMn.out];exact hk))
  obtain ⟨t,ht⟩:∃ t:ByteArray,(⟨(textTo D L k).toArray⟩:ByteArray)=t:=⟨_,rfl⟩
  have hts:t.size≤124:=by
   have:=HT.out
   rw [←ht]
   show (textTo D L k).toArray.size≤124
   simp
   omega
  have HTt:=hid_of ht
  rw [ht]
  by_cases hlt:k<m
  ·have hki:(k:Int)<(m:Int):=by omega
   have hkn:k<n:=by rw [←HMn.out];exact hlt
   obtain ⟨y,hy⟩:∃ y:Nat,L.getD k 0=y:=⟨(L.getD k 0).toNat,by have:=HI.out.lo k hkn;omega⟩
   have hyl:y<(D k).n:=by have:=HI.out.hi k hkn;omega
   obtain ⟨bm,om,q1,q2⟩:=mem_nameG (HM.out.later HBw.out) hkn hyl
   have q3:wr.cell? ⟨bp,op+k,none⟩=some (.int .i64 (y:Int)):=by
    rw [←hy]
    exact (HBw.out.cell (p:=⟨bp,op+k,none⟩) hbl).trans (HC.out k (by omega))
   have q4:wr.cell? ⟨w.heap.size,0,none⟩=some (.slice (some ⟨d,od,none⟩) n cap):=(HBw.out.cell (p:=⟨w.heap.size,0,none⟩) (by show w.heap.size<_;omega)).trans hat
   have hnm:nameB D L k=((D k).mem y).name:=by unfold nameB;rw [hy];simp
   have hns:((D k).mem y).name.size≤30:=name_small HI.out.right hkn hyl
   have HNm:=hid_of hnm
   generalize ((D k).mem y).name=nm at q2 hns HNm
   generalize (D k).n=mk at q1 hyl
   generalize C k=ck at q1
   clear hnm hy ht
   by_cases hk0:k=0
   ·have hk1 : ¬ (0:Int)<(k:Int):=by omega
    have HE:Hid (t ++ nm=⟨(textTo D L (k+1)).toArray⟩):=by
     show _=_
     rw [←HTt.out,str_add,textTo,if_pos hk0,HNm.out]
     simp
    have hs2 : ¬ 9223372036854775807<t.size+nm.size:=by omega
    clear hk0
    go_wp2_with fail
    go_quiet (fail)
    go_wp2_with fail
    go_roundg (m-(k+1))
    case measure=>omega
    case rel=>exact ⟨k+1,by omega,rfl,by go_num,by rw [HE.out],hid_of (below_drewN HBw.out _)⟩
   ·have hk1:(0:Int)<(k:Int):=by omega
    have HE:Hid ((t ++ ⟨#[46]⟩) ++ nm=⟨(textTo D L (k+1)).toArray⟩):=by
     show _=_
     rw [←HTt.out,str_add,str_add,textTo,if_neg hk0,HNm.out]
     simp
    have hs1 : ¬ 9223372036854775807<t.size+1:=by omega
    have hs2 : ¬ 9223372036854775807<t.size+1+nm.size:=by omega
    clear hk0
    go_wp2_with fail
    go_quiet (fail)
    go_wp2_with fail
    go_roundg (m-(k+1))
    case measure=>omega
    case rel=>exact ⟨k+1,by omega,rfl,by go_num,by rw [HE.out],hid_of (below_drewN HBw.out _)⟩
  ·have hke:k=m:=by omega
   have HE:Hid (t=⟨(textTo D L n).toArray⟩):=by
    show _=_
    rw [←HTt.out,hke,HMn.out]
   clear ht
   go_wp2_with fail
   go_ret
   exact ⟨by rw [HE.out];rfl,onB HB.out HBw.out⟩
end Go.Proofs.YtinebmjpdkjooaaGreatDoor
namespace Go.Proofs.YtinebmjpdkjooaaGreatDoor
def lessL:List Int→List Int→Bool
 | [],[]=>false
 | [],_ :: _=>true
 | _ :: _,[]=>false
 | a :: r,b :: t=>if a=b then lessL r t else decide (a<b)
theorem lessL_trans:∀ (a b c:List Int),lessL a b=true→lessL b c=true→lessL a c=true
 | [],[],_,h,_=>by simp [lessL] at h
 | [],_ :: _,[],_,h=>by simp [lessL] at h
 | [],_ :: _,_ :: _,_,_=>rfl
 | _ :: _,[],_,h,_=>by simp [lessL] at h
 | _ :: _,_ :: _,[],_,h=>by simp [lessL] at h
 | x :: r,y :: t,z :: u,h1,h2=>by
  simp only [lessL] at h1 h2 ⊢
  by_cases e1:x=y
  ·by_cases e2:y=z
   ·rw [if_pos e1] at h1
    rw [if_pos e2] at h2
    rw [if_pos (e1.trans e2)]
    exact lessL_trans r t u h1 h2
   ·rw [if_neg e2] at h2
    rw [if_neg (by rw [e1];exact e2),e1]
    exact h2
  ·rw [if_neg e1] at h1
   have h3:=of_decide_eq_true h1
   by_cases e2:y=z
   ·rw [if_neg (by rw [←e2];exact e1),←e2]
    exact h1
   ·rw [if_neg e2] at h2
    have h4:=of_decide_eq_true h2
    rw [if_neg (by omega)]
    exact decide_eq_true (by omega)
theorem lessL_part:∀ (a b:List Int),a.length=b.length→lessL a b=true→∃ j,j<a.length∧(∀ i,i<j→a.getD i 0=b.getD i 0)∧a.getD j 0<b.getD j 0
 | [],[],_,h=>by simp [lessL] at h
 | [],_ :: _,h,_=>by simp at h
 | _ :: _,[],h,_=>by simp at h
 | x :: r,y :: t,hl,h=>by
  simp only [lessL] at h
  by_cases e:x=y
  ·rw [if_pos e] at h
   obtain ⟨j,h1,h2,h3⟩:=lessL_part r t (by simpa using hl) h
   refine ⟨j+1,by simpa using h1,fun i hi=>?_,by simpa using h3⟩
   cases i with
   | zero=>simpa using e
   | succ i=>simpa using h2 i (by omega)
  ·rw [if_neg e] at h
   exact ⟨0,by simp,fun i hi=>by omega,by simpa using of_decide_eq_true h⟩
theorem less_num {D:Nat→Dm} {n:Nat} {a b:List Int} (ha:InO D n a) (hb:InO D n b) (h:lessL a b=true):numI D a n<numI D b n:=by
 obtain ⟨j,hj,he,hlt⟩:=lessL_part a b (by rw [ha.len,hb.len]) h
 rw [ha.len] at hj
 have h1:∀ k,k≤j→numI D a k=numI D b k:=by
  intro k
  induction k with
  | zero=>intro _;rfl
  | succ k ih=>intro hk;rw [numI,numI,ih (by omega),he k (by omega)]
 have h2:∀ k,j<k→k≤n→numI D a k+1≤numI D b k:=by
  intro k
  induction k with
  | zero=>intro h;omega
  | succ k ih =>
   intro hjk hk
   rw [numI,numI]
   have a2:=ha.hi k (by omega)
   have b1:=hb.lo k (by omega)
   by_cases e:k=j
   ·rw [h1 k (by omega),e];omega
   ·have h3:=ih (by omega) (by omega)
    have h4:(numI D a k+1)*((D k).n:Int)≤numI D b k*((D k).n:Int):=Int.mul_le_mul_of_nonneg_right h3 (by omega)
    rw [Int.add_mul,Int.one_mul] at h4
    omega
 exact h2 n hj (Nat.le_refl _)
structure En where
 pl:List Int
 n:Int
def numOk (x:Int):Bool:=decide (-1000000≤x) && decide (x≤1000000)
def entOne (D:Nat→Dm) (n:Nat) (e:En):Int:=if shapeErr D n e.pl≠0 then shapeErr D n e.pl else if leafV D n e.pl=false then 6 else if numOk e.n=false then 1 else 0
def aheadOk:Option (List Int)→List Int→Bool
 | none,_=>true
 | some a,b=>lessL a b
def entFrom (D:Nat→Dm) (n:Nat):Option (List Int)→List En→Int
 | _,[]=>0
 | q,e :: r=>if entOne D n e≠0 then entOne D n e else if aheadOk q e.pl=true then entFrom D n (some e.pl) r else 7
def entsErr (D:Nat→Dm) (n:Nat) (l:List En):Int:=if (allErr D n).2.2≠0 then (allErr D n).2.2 else entFrom D n none l
structure Ens (D:Nat→Dm) (n:Nat) (l:List En):Prop where
 right:(allErr D n).2.2=0
 each:∀ e∈l,InO D n e.pl∧leafV D n e.pl=true∧numOk e.n=true
 rise:l.Pairwise fun a b=>lessL a.pl b.pl=true
theorem entOne_right {D:Nat→Dm} {n:Nat} {e:En} (hR:(allErr D n).2.2=0) (h:entOne D n e=0):InO D n e.pl∧leafV D n e.pl=true∧numOk e.n=true:=by
 unfold entOne at h
 split at h
 ·rename_i h1;exact absurd h h1
 ·split at h
  ·cases h
  ·split at h
   ·cases h
   ·rename_i h1 h2 h3
    exact ⟨inO_of (by rw [pe1 hR];simpa using h1),by simpa using h2,by simpa using h3⟩
theorem entOne_ok {D:Nat→Dm} {n:Nat} {e:En} (h:InO D n e.pl∧leafV D n e.pl=true∧numOk e.n=true):entOne D n e=0:=by
 have h1:shapeErr D n e.pl=0:=by rw [←pe1 h.1.right];exact h.1.ok
 unfold entOne
 rw [if_neg (by simpa using h1),if_neg (by simp [h.2.1]),if_neg (by simp [h.2.2])]
theorem entFrom_right {D:Nat→Dm} {n:Nat} (hR:(allErr D n).2.2=0):∀ (l:List En) (q:Option (List Int)),entFrom D n q l=0→(∀ e∈l,InO D n e.pl∧leafV D n e.pl=true∧numOk e.n=true)∧(∀ a,q=some a→∀ e∈l,lessL a e.pl=true)∧l.Pairwise fun a b=>lessL a.pl b.pl=true
 | [],_,_=>⟨fun _ h=>(by cases h),fun _ _ _ h=>(by cases h),List.Pairwise.nil⟩
 | e :: r,q,h=>by
  rw [entFrom] at h
  by_cases h1:entOne D n e=0
  ·rw [if_neg (by simpa using h1)] at h
   have go:∀ (h2:entFrom D n (some e.pl) r=0) (h3:∀ a,q=some a→lessL a e.pl=true),(∀ x∈e :: r,InO D n x.pl∧leafV D n x.pl=true∧numOk x.n=true)∧(∀ a,q=some a→∀ x∈e :: r,lessL a x.pl=true)∧(e :: r).Pairwise fun a b=>lessL a.pl b.pl=true:=fun h2 h3=>by
    obtain ⟨g1,g2,g3⟩:=entFrom_right hR r _ h2
    refine ⟨fun x hx=>?_,fun a ha x hx=>?_,List.Pairwise.cons (fun x hx=>g2 _ rfl x hx) g3⟩
    ·rcases List.mem_cons.1 hx with rfl | hx
     ·exact entOne_right hR h1
     ·exact g1 x hx
    ·rcases List.mem_cons.1 hx with rfl | hx
     ·exact h3 a ha
     ·exact lessL_trans _ _ _ (h3 a ha) (g2 _ rfl x hx)
   split at h
   ·rename_i h4
    exact go h fun b hb=>by rw [hb] at h4;exact h4
   ·cases h
  ·rw [if_pos (by simpa using h1)] at h
   exact absurd h h1
theorem ens_of {D:Nat→Dm} {n:Nat} {l:List En} (h:entsErr D n l=0):Ens D n l:=by
 unfold entsErr at h
 split at h
 ·rename_i h1;exact absurd h h1
 ·rename_i h1
  have hR:(allErr D n).2.2=0:=by simpa using h1
  obtain ⟨g1,_,g3⟩:=entFrom_right hR l none h
  exact ⟨hR,g1,g3⟩
theorem entFrom_ok {D:Nat→Dm} {n:Nat}:∀ (l:List En) (q:Option (List Int)),(∀ e∈l,InO D n e.pl∧leafV D n e.pl=true∧numOk e.n=true)→(∀ a,q=some a→∀ e∈l,lessL a e.pl=true)→(l.Pairwise fun a b=>lessL a.pl b.pl=true)→entFrom D n q l=0
 | [],_,_,_,_=>rfl
 | e :: r,q,h1,h2,h3=>by
  obtain ⟨h4,h5⟩:=List.pairwise_cons.1 h3
  have h6:=entFrom_ok r (some e.pl) (fun x hx=>h1 x (List.mem_cons_of_mem _ hx)) (fun a ha x hx=>by cases ha;exact h4 x hx) h5
  rw [entFrom,if_neg (by simpa using entOne_ok (h1 e (List.mem_cons_self ..)))]
  rw [if_pos]
  ·exact h6
  ·cases q with
   | none=>rfl
   | some a=>exact h2 a rfl e (List.mem_cons_self ..)
theorem Ens.ok {D:Nat→Dm} {n:Nat} {l:List En} (h:Ens D n l):entsErr D n l=0:=by
 unfold entsErr
 rw [if_neg (by simpa using h.right)]
 exact entFrom_ok l none h.each (fun a ha=>by cases ha) h.rise
theorem Ens.few {D:Nat→Dm} {n:Nat} {l:List En} (h:Ens D n l):l.length≤3000:=by
 have hp:=(allErr_some h.right).2.2.1
 have key:∀ (m:List En) (lo:Int),(∀ e∈m,InO D n e.pl)→(m.Pairwise fun a b=>lessL a.pl b.pl=true)→(∀ e∈m,lo≤numI D e.pl n)→0≤lo→lo≤(prodN D n:Int)→lo+(m.length:Int)≤(prodN D n:Int):=by
  intro m
  induction m with
  | nil=>intro lo _ _ _ _ h5;simpa using h5
  | cons e r ih =>
   intro lo h1 h2 h3 h4 h5
   obtain ⟨h6,h7⟩:=List.pairwise_cons.1 h2
   have he:=h1 e (List.mem_cons_self ..)
   have h8:=h3 e (List.mem_cons_self ..)
   have h9:=(numI_bound he (Nat.le_refl n)).2.1
   have:=ih (numI D e.pl n+1) (fun x hx=>h1 x (List.mem_cons_of_mem _ hx)) h7 (fun x hx=>by have:=less_num he (h1 x (List.mem_cons_of_mem _ hx)) (h6 x hx);omega) (by omega) (by omega)
   rw [List.length_cons]
   omega
 have:=key l 0 (fun e he=>(h.each e he).1) h.rise (fun e he=>(numI_bound (h.each e he).1 (Nat.le_refl n)).1) (Int.le_refl _) (by omega)
 omega
end Go.Proofs.YtinebmjpdkjooaaGreatDoor
namespace Go.Proofs.YtinebmjpdkjooaaGreatDoor
open Go Go.ChangeShapes Go.WideShapes Go.ChangeAt Go.RowKit Go.Deep
set_option maxRecDepth 100000
structure EnL where
 e:En
 A:Option Addr
 c:Nat
def noEn:En:=⟨[],0⟩
def noL:EnL:=⟨noEn,none,0⟩
def lE (xs:List EnL):List En:=xs.map EnL.e
theorem lE_len (xs:List EnL):(lE xs).length=xs.length:=by simp [lE]
theorem lE_at (xs:List EnL) (k:Nat):(lE xs).getD k noEn=(xs.getD k noL).e:=by
 rw [List.getD_eq_getElem?_getD,List.getD_eq_getElem?_getD,lE,List.getElem?_map]
 cases xs[k]? <;> rfl
def cellsE:List EnL→List Value
 | []=>[]
 | x :: r=>.slice x.A x.e.pl.length x.c :: .int .i64 x.e.n :: cellsE r
theorem cellsE_len (xs:List EnL):(cellsE xs).length=xs.length*2:=by
 induction xs with
 | nil=>rfl
 | cons x r ih=>simp [cellsE,ih];omega
theorem cellsE_append (a b:List EnL):cellsE (a ++ b)=cellsE a ++ cellsE b:=by
 induction a with
 | nil=>rfl
 | cons x r ih=>simp [cellsE,ih]
theorem cellsE_at (xs:List EnL):∀ k,k<xs.length→(cellsE xs)[k*2]?=some (.slice (xs.getD k noL).A (xs.getD k noL).e.pl.length (xs.getD k noL).c)∧(cellsE xs)[k*2+1]?=some (.int .i64 (xs.getD k noL).e.n):=by
 induction xs with
 | nil=>intro k hk;cases hk
 | cons x r ih =>
  intro k hk
  cases k with
  | zero=>simp [cellsE]
  | succ k =>
   rw [show (k+1)*2=k*2+1+1 by omega]
   simp only [cellsE,List.getElem?_cons_succ,List.getD_cons_succ]
   exact ih k (by simpa using hk)
theorem enl_mem {xs:List EnL} {k:Nat} (h:k<xs.length):xs.getD k noL∈xs:=by
 rw [List.getD_eq_getElem?_getD,List.getElem?_eq_getElem h]
 exact List.getElem_mem h
def EnsAt (w:World) (b o:Nat) (xs:List EnL):Prop:=b<w.heap.size∧(∀ j u,(cellsE xs)[j]?=some u→w.cell? ⟨b,o+j,none⟩=some u)∧∀ x∈xs,PlAt w x.A x.c x.e.pl
theorem EnsAt.later {w w':World} {b o:Nat} {xs:List EnL} (h:EnsAt w b o xs) (hB:Below w.heap.size w w'):EnsAt w' b o xs :=
 ⟨Nat.lt_of_lt_of_le h.1 hB.size,fun j u hj=>(hB.cell (p:=⟨b,o+j,none⟩) h.1).trans (h.2.1 j u hj),fun x hx=>(h.2.2 x hx).later hB⟩
theorem EnsAt.pl {w:World} {b o:Nat} {xs:List EnL} (h:EnsAt w b o xs) {k:Nat} (hk:k<xs.length):PlAt w (xs.getD k noL).A (xs.getD k noL).c (xs.getD k noL).e.pl:=h.2.2 _ (enl_mem hk)
theorem EnsAt.at {w:World} {b o:Nat} {xs:List EnL} (h:EnsAt w b o xs) {k:Nat} (hk:k<xs.length):w.cell? ⟨b,o+k*2,none⟩=some (.slice (xs.getD k noL).A (xs.getD k noL).e.pl.length (xs.getD k noL).c)∧w.cell? ⟨b,o+k*2+1,none⟩=some (.int .i64 (xs.getD k noL).e.n):=by
 obtain ⟨h1,h2⟩:=cellsE_at xs k hk
 exact ⟨h.2.1 _ _ h1,by rw [Nat.add_assoc];exact h.2.1 _ _ h2⟩
def EnsV (w:World) (A:Option Addr) (cap:Nat) (xs:List EnL):Prop:=xs.length≤cap∧cap≤9223372036854775807∧(xs=[]∨∃ b o,A=some ⟨b,o,none⟩∧EnsAt w b o xs)
theorem EnsV.later {w w':World} {A:Option Addr} {cap:Nat} {xs:List EnL} (h:EnsV w A cap xs) (hB:Below w.heap.size w w'):EnsV w' A cap xs:=by
 obtain ⟨h1,h0,h2 | ⟨b,o,h2,h3⟩⟩:=h
 ·exact ⟨h1,h0,Or.inl h2⟩
 ·exact ⟨h1,h0,Or.inr ⟨b,o,h2,h3.later hB⟩⟩
section
variable {H:Type} {enc:TypeId×Value→H} {w:World} {held:Bool}
theorem cellsEn:Tryz.prog.cellsOf 51=2:=by kernel_rfl
theorem open_pl {fuel:Nat} {cs:List Value} {x:DataW H×List MemPlace} (h:DataW.trod enc Tryz.prog w 0 (fun _=>true) held fuel 49 cs=some x) :
  ∃ (Ap:Option Addr) (cp:Nat) (L:List Int),cs=[.slice Ap L.length cp]∧PlAt w Ap cp L:=by
 rcases open_ints Tryz.underlying49 Tryz.underlying3 (by kernel_rfl) h with ⟨rfl,_⟩ | ⟨a',len,cap,zs,rfl,_,hl,_,hzl,_,hc,_⟩
 ·exact ⟨none,0,[],rfl,PlAt.nil _ _ _⟩
 ·simp at hzl
  have hlen:(zs.take len).length=len:=by simp;omega
  refine ⟨some a',cap,zs.take len,by rw [hlen],by rw [hlen];exact hl,?_⟩
  rcases Nat.eq_zero_or_pos len with h0 | h0
  ·left
   subst h0
   simp
  right
  have c0:=hc 0 (by omega)
  have hp:=addr_plain c0 rfl
  have hb:=World.block_lt_of_cell? _ _ c0
  refine ⟨a'.block,a'.off,by rw [←hp],by simpa [Addr.add] using hb,fun j hj=>?_⟩
  rw [hlen] at hj
  have:=hc j (by omega)
  rw [hp,plain_add] at this
  rw [this]
  simp [List.getD,hj]
theorem open_en {fuel:Nat} {cs:List Value} {x:DataW H×List MemPlace} (h:DataW.trod enc Tryz.prog w 0 (fun _=>true) held fuel 51 cs=some x) :
  ∃ (e:En) (A:Option Addr) (c:Nat),cs=[.slice A e.pl.length c,.int .i64 e.n]∧PlAt w A c e.pl:=by
 obtain ⟨hl,n,hf⟩:=trod_one Tryz.underlying51 (by kernel_rfl) h
 rw [cellsEn] at hl
 match cs,hl with
 | [v0,v1],_ =>
  obtain ⟨y0,h0⟩:=hf 0 _ v0 rfl rfl
  obtain ⟨y1,h1⟩:=hf 1 _ v1 rfl rfl
  obtain ⟨A,c,L,e0,hP⟩:=open_pl h0
  obtain ⟨n1,e1,-,-⟩:=DataW.trod_int Tryz.underlying3 h1
  simp at e0 e1
  exact ⟨⟨L,n1⟩,A,c,by rw [e0,e1],hP⟩
theorem cells_of_each {b o:Nat} {xs:List EnL} (h:∀ i,i<xs.length→w.cell? ⟨b,o+i*2,none⟩=some (.slice (xs.getD i noL).A (xs.getD i noL).e.pl.length (xs.getD i noL).c)∧w.cell? ⟨b,o+i*2+1,none⟩=some (.int .i64 (xs.getD i noL).e.n)):∀ j u,(cellsE xs)[j]?=some u→w.cell? ⟨b,o+j,none⟩=some u:=by
 intro j u hj
 have hlt:j<(cellsE xs).length:=(List.getElem?_eq_some_iff.1 hj).1
 rw [cellsE_len] at hlt
 have hk:j / 2<xs.length:=by omega
 obtain ⟨h1,h2⟩:=cellsE_at xs _ hk
 obtain ⟨c1,c2⟩:=h _ hk
 rcases Nat.mod_two_eq_zero_or_one j with hm | hm
 ·have e:j=j / 2*2:=by omega
  rw [e] at hj ⊢
  rw [h1] at hj
  rw [c1]
  exact hj
 ·have e:j=j / 2*2+1:=by omega
  rw [e] at hj ⊢
  rw [h2] at hj
  rw [←Nat.add_assoc,c2]
  exact hj
theorem open_ens {r:Reach} {b0:Nat} {v:Value} {d:DataW H} {p:List MemPlace} (hv:Value.okWide Tryz.prog w r b0 25 v) (h:DataW.Trod enc Tryz.prog w 0 (fun _=>true) held 25 v d p) :
  ∃ (A:Option Addr) (cap:Nat) (xs:List EnL),v=.slice A xs.length cap∧EnsV w A cap xs:=by
 obtain ⟨a0,len0,cap0,rfl⟩:=okWide_slice Tryz.underlying25 hv
 obtain ⟨fuel,hf⟩:=h
 have hf':DataW.trod enc Tryz.prog w 0 (fun _=>true) held fuel 25 [.slice a0 len0 cap0]=some (d,p):=hf
 rcases open_slice Tryz.underlying25 hf' with ⟨e,-⟩ | ⟨a,len,cap,m,n,D,Pl,e,-,hl,hcm,hm,-,hx⟩
 ·simp at e
  obtain ⟨rfl,rfl,rfl⟩:=e
  exact ⟨none,0,[],rfl,Nat.le_refl _,Nat.zero_le _,Or.inl rfl⟩
 simp at e
 obtain ⟨rfl,rfl,rfl⟩:=e
 rw [cellsEn] at hx
 simp at hm
 subst hm
 haveI:Inhabited EnL:=⟨noL⟩
 have each:∀ i,i<len0→∃ y:EnL,w.cells? 0 (a.add (i*2)) 2=some [.slice y.A y.e.pl.length y.c,.int .i64 y.e.n]∧PlAt w y.A y.c y.e.pl:=fun i hi=>by
  obtain ⟨cs',h1,h2⟩:=hx i (by omega)
  obtain ⟨e,A,c,rfl,hp⟩:=open_en h2
  exact ⟨⟨e,A,c⟩,h1,hp⟩
 obtain ⟨Y,hY⟩:=choose_lt each
 have hlen:((List.range len0).map Y).length=len0:=by simp
 have hg:∀ i,i<len0→((List.range len0).map Y).getD i noL=Y i:=fun i hi=>by simp [List.getD,hi]
 refine ⟨some a,_,(List.range len0).map Y,by rw [hlen],by rw [hlen];exact hl,hcm,?_⟩
 rcases Nat.eq_zero_or_pos len0 with h0 | h0
 ·left;subst h0;rfl
 right
 have c0:=(World.cells?_some (hY 0 h0).1).2.2 0 (by omega)
 rw [add_add] at c0
 have hp:=addr_plain c0 (by omega)
 have hb:=World.block_lt_of_cell? _ _ c0
 refine ⟨a.block,a.off,by rw [←hp],by simpa [Addr.add] using hb,cells_of_each fun i hi=>?_,fun x hx=>?_⟩
 ·rw [hlen] at hi
  have hc:=(World.cells?_some (hY i hi).1).2.2
  rw [hp] at hc
  simp only [plain_add,Nat.add_assoc] at hc
  rw [hg i hi]
  refine ⟨?_,?_⟩
  ·have:=hc 0 (by omega);simpa using this
  ·have:=hc 1 (by omega);simpa [Nat.add_assoc] using this
 ·simp only [List.mem_map,List.mem_range] at hx
  obtain ⟨i,hi,rfl⟩:=hx
  exact (hY i hi).2
end
end Go.Proofs.YtinebmjpdkjooaaGreatDoor
namespace Go.Proofs.YtinebmjpdkjooaaGreatDoor
open Go.ChangeShapes Go.WideShapes Go.ChangeAt Go.RowKit
set_option maxRecDepth 20000
theorem count_dot (s:ByteArray) (w:World):Calls Tryz.prog 77 #[.string s,.string ⟨#[46]⟩] w fun e w'=>e=.returned (.int .i64 (((pieces s).length:Int)-1))∧w'=w:=by
 refine (Any.strings_Count_one Tryz.lays138 s 46 w).mono fun e w' ⟨h1,h2⟩=>⟨?_,h2⟩
 rw [h1,pieces_count]
 simp
theorem index_dot (s:ByteArray) (w:World):Calls Tryz.prog 114 #[.string s,.string ⟨#[46]⟩] w fun e w'=>e=.returned (.int .i64 (Lib.indexByte s.data.toList 46))∧w'=w:=Any.strings_Index_one Tryz.lays143 s 46 w
set_option maxHeartbeats 4000000 in
theorem gensplit_any (s:ByteArray) (w:World) (hN:(pieces s).length≤4) (hs:s.size≤4611686018427387904):Calls Tryz.prog 104 #[.string s,.string ⟨#[46]⟩,.int .i64 0,.int .i64 (-1)] w fun e w'=>e=.returned (.slice (some ⟨w.heap.size,0,none⟩) (pieces s).length (pieces s).length)∧w'=w.alloc (.cells ((pieces s).map Value.string).toArray 9):=by
 have hct:=count_dot s
 have hpo:=pieces_pos s
 have hple:=pieces_le s
 obtain ⟨N,hn⟩:∃ N,(pieces s).length=N:=⟨_,rfl⟩
 have HN:Hid ((pieces s).length=N):=hn
 rw [hn] at hN hct hpo hple
 rw [hn]
 have hmk:=run_make_row' (P:=Tryz.prog) 67 9 (.string ByteArray.empty) 16 Tryz.underlying67 Tryz.infoStr rfl .i64 .i64 N (by omega) (by omega)
 have hsz:(s.size:Int)≤4611686018427387904:=by omega
 have hN4:(N:Int)≤4:=by omega
 have hN1:(1:Int)≤(N:Int):=by omega
 have hmn:min (N:Int) ((s.size:Int)+1)=(N:Int):=Int.min_eq_left (by omega)
 clear hn
 go_enter Tryz.func104,Tryz.ntmps104
 go_wp2_with fail
 refine (hct _).mono ?_
 rintro e w1 ⟨rfl,rfl⟩
 go_wp2_with fail
 clear hmk hct hmn
 go_loopg [0,10,11] (N-1) (fun g s0 s10 s11 wr => ∃ (done:List ByteArray) (rest:ByteArray),s0=.string rest∧s10=.int .i64 done.length∧done.length≤N-1∧g=N-1-done.length∧rest.size≤s.size∧wr=w1.alloc (.cells (Lib.cellsOf done N) 9)∧done ++ pieces rest=pieces s)
 case atStart=>exact ⟨[],s,rfl,rfl,Nat.zero_le _,rfl,Nat.le_refl _,by rw [Lib.cellsOf_nil],rfl⟩
 case round =>
  obtain ⟨done,rest,rfl,rfl,hd,rfl,hrs,rfl,hsp⟩:=hrel
  have hnext:(Lib.cellsOf done N)[done.length]?=some (.string ByteArray.empty):=Lib.cellsOf_next (by omega)
  have HS:Hid (done ++ pieces rest=pieces s):=hsp
  have hpl:done.length+(pieces rest).length=N:=by rw [←HN.out,←hsp,List.length_append]
  have hix:=index_dot rest
  clear hsp
  by_cases hlt:done.length<N-1
  ·have hltz:((done.length:Nat):Int)<(N:Int)-1:=by omega
   obtain ⟨i,hi,hroom,hpc⟩:=pieces_dot (x:=rest) (by omega)
   rw [hi] at hix
   have HP:Hid (pieces rest=rest.extract 0 i :: pieces (rest.extract (i+1) rest.size)):=hpc
   have c0 : ¬ ((i:Int)<0):=by omega
   have c2:(i:Int)≤(rest.size:Int):=by omega
   have c4:(i:Int)+1≤(rest.size:Int):=by omega
   have c5:(rest.size:Int)≤4611686018427387904:=by omega
   clear hpc hi hpl
   go_wp2_with fail
   refine (hix _).mono ?_
   rintro e w2 ⟨rfl,rfl⟩
   go_wp2_with fail
   go_roundg (N-1-(done.length+1))
   case measure=>omega
   case rel =>
    refine ⟨done ++ [rest.extract 0 i],rest.extract (i+1) rest.size,rfl,by simp,by simp;omega,by simp,by rw [ByteArray.size_extract];omega,by rw [←Lib.cellsOf_set (by omega)],?_⟩
    rw [←HS.out,HP.out]
    simp
  ·have hltz : ¬ (((done.length:Nat):Int)<(N:Int)-1):=by omega
   have hone:=pieces_last (x:=rest) (by omega)
   have HF:Hid ((Lib.cellsOf done N).setIfInBounds done.length (.string rest)=((pieces s).map Value.string).toArray):=by
    show _=_
    have hL:done ++ [rest]=pieces s:=by rw [←HS.out,hone]
    rw [Lib.cellsOf_set (by omega),hL,←HN.out,Lib.cellsOf_full]
   have hdn:done.length+1=N:=by omega
   have hdn':((done.length:Nat):Int)+1=(N:Int):=by omega
   clear hone hix
   go_wp2_with fail
   go_ret
   rw [←HF.out]
   exact ⟨by rfl,rfl⟩
theorem split_any (s:ByteArray) (w:World) (hN:(pieces s).length≤4) (hs:s.size≤4611686018427387904):Calls Tryz.prog 78 #[.string s,.string ⟨#[46]⟩] w fun e w'=>e=.returned (.slice (some ⟨w.heap.size,0,none⟩) (pieces s).length (pieces s).length)∧w'=w.alloc (.cells ((pieces s).map Value.string).toArray 9):=by
 have h:=gensplit_any s w hN hs
 generalize (pieces s).length=m at h
 generalize ((pieces s).map Value.string).toArray=cs at h
 clear hN hs
 go_enter Tryz.func78,Tryz.ntmps78
 go_wp2_with fail
 refine h.mono ?_
 rintro e w1 ⟨rfl,rfl⟩
 go_wp2_with fail
 go_ret
 exact ⟨rfl,rfl⟩
theorem own_low {w:World} {b b' e size n:Nat} {v:Value} {xs:List Value} (h:w.ownsRow b e size v n xs) (hb:b'≤b):w.ownsRow b' e size v n xs:=by
 refine ⟨h.1,?_⟩
 rcases h.2 with h0 | ⟨g,cap,cur,h1,h2,h3⟩
 ·exact Or.inl h0
 ·exact Or.inr ⟨g,cap,cur,h1,Nat.le_trans hb h2,h3⟩
set_option maxHeartbeats 2000000 in
theorem places_own (fn q r:Nat) (he:EntersO fn) (A:Option Addr) (n cap:Nat) (p:Nat→Bool) (w:World) (hn:n≤12) (hp:AskP fn q r w n p):Calls Tryz.prog 159 #[.slice A n cap,.func (.func fn) #[] #[.pointer (some ⟨q,0,none⟩),.pointer (some ⟨r,0,none⟩)]] w fun e w'=>(∃ v,e=.returned v∧w'.ownsRow w.heap.size 3 1 v (selTo p n).length (mapI (selTo p n)))∧Below w.heap.size w w':=by
 obtain ⟨i0,hi0,hz0,hz1,hz2⟩:=info_parts Tryz.infoInt
 have HP:Hid (AskP fn q r w n p):=hp
 have hn':(n:Int)≤12:=by omega
 clear hp
 unfold EntersO at he
 go_enter Tryz.func159,Tryz.ntmps159
 go_wp2_with fail
 go_loopg [5,9] n (fun g s5 s9 wr => ∃ (k:Nat),k≤n∧g=n-k∧s9=.int .i64 k∧wr.ownsRow w.heap.size 3 1 s5 (selTo p k).length (mapI (selTo p k))∧Below w.heap.size w wr)
 case atStart=>exact ⟨0,Nat.zero_le _,rfl,rfl,World.ownsRow_nil _ _ _ _,Below.refl _ _⟩
 case round =>
  obtain ⟨k,hk,rfl,rfl,hown,hBw⟩:=hrel
  have HW:Hid (Below w.heap.size w wr):=hBw
  have HO:Hid (wr.ownsRow w.heap.size 3 1 _ (selTo p k).length (mapI (selTo p k))):=hown
  by_cases hlt:k<n
  ·have hki:(k:Int)<(n:Int):=by omega
   have hbd:=HP.out k wr hlt hBw
   clear hBw hown
   cases hb:p k
   ·rw [hb] at hbd
    have HK:Hid (p k=false):=hb
    clear hb
    go_wp2_with fail
    refine hbd.mono ?_
    rintro e w1 ⟨rfl,hb1⟩
    go_wp2_with fail
    go_roundg (n-(k+1))
    case measure=>omega
    case rel=>exact ⟨k+1,by omega,rfl,by go_num,by rw [selTo_miss HK.out];exact own_later HO.out hb1,onB HW.out hb1⟩
   ·rw [hb] at hbd
    have HK:Hid (p k=true):=hb
    have hlen:=selTo_len p k
    clear hb
    go_wp2_with fail
    refine hbd.mono ?_
    rintro e w1 ⟨rfl,hb1⟩
    have hown:=own_later HO.out hb1
    have hB1:=onB HW.out hb1
    have hsz:=hB1.size
    have HB1:Hid (Below w.heap.size w w1):=hB1
    clear hb1 hB1
    go_wp2_with (at_builtin;refine wpList_append_own _ rfl _ _ 48 rfl w.heap.size 3 i0 (.int .i64 0) 1 8 Tryz.underlying48 hi0 hz0 hz1 hz2 rfl (by decide) _ _ _ rfl (hown.alloc _) ⟨w1.heap.size,0,none⟩ 1 1 [.int .i64 k] rfl rfl one_cell one_one (by unfold maxLen;omega) (by omega) (by simp;omega) ?_)
    intro v' w2 hown' hgrow _
    have HB2:Hid (Below w.heap.size w w2):=grown_own HB1.out hown hgrow
    have HO2:Hid (w2.ownsRow w.heap.size 3 1 v' (selTo p (k+1)).length (mapI (selTo p (k+1)))):=by
     show World.ownsRow ..
     rw [selTo_hit HK.out,mapI_snoc,List.length_append];exact hown'
    clear hown' hgrow hown
    go_wp2_with fail
    go_roundg (n-(k+1))
    case measure=>omega
    case rel=>exact ⟨k+1,by omega,rfl,by go_num,HO2.out,HB2.out⟩
  ·have hke:k=n:=by omega
   subst hke
   clear hBw hown
   go_wp2_with fail
   go_ret
   exact ⟨⟨_,rfl,HO.out⟩,HW.out⟩
set_option maxHeartbeats 2000000 in
theorem parts_own (d:Dm) (A:Option Addr) (cap:Nat) (k:Nat) (w:World) (hd:(dimErr d).2=0) (hk:k<d.n) (hM:MemsV w A cap d.n d.mem):Calls Tryz.prog 126 #[dimV d A cap,.int .i64 k] w fun e w'=>(∃ v,e=.returned (.tuple #[v,.nilIface])∧w'.ownsRow w.heap.size 3 1 v (partsOf d.mem d.n k).length (mapI (partsOf d.mem d.n k)))∧Below w.heap.size w w':=by
 have hB0:=ownQ_below w d A cap k 43 3
 have hck:=tcheck_any d A cap _ 1 [(k:Int)] (ownQ w d A cap k 43 3) (hM.later hB0) (by simp) (ownQ_ints ..)
 have HB0:Hid (Below w.heap.size w (ownQ w d A cap k 43 3)):=hB0
 have HM:Hid (MemsV w A cap d.n d.mem):=hM
 unfold dimV at hck ⊢
 simp only [List.length_singleton] at hck
 clear hM hB0
 have he:treeErr d [(k:Int)]=0:=by rw [treeErr_one hd,if_neg (by omega)]
 ·rw [he,errV_zero] at hck
  obtain ⟨-,-,hd2,-⟩:=dimErr_right hd
  clear he hd
  go_enter Tryz.func126,Tryz.ntmps126
  go_wp2_with fail
  refine hck.mono ?_
  rintro e w1 ⟨rfl,hb1⟩
  have hB:Below w.heap.size w w1:=onB HB0.out hb1
  have hz:w.heap.size+1<w1.heap.size:=by have:=hb1.size;rw [ownQ_size] at this;omega
  have h2:w1.cell? ⟨w.heap.size,2,none⟩=some (.slice A d.n cap):=(hb1.cell (p:=⟨w.heap.size,2,none⟩) (by show w.heap.size<_;rw [ownQ_size];omega)).trans (ownQ_dim ..)
  have h3:w1.cell? ⟨w.heap.size+1,0,none⟩=some (.int .i64 k):=(hb1.cell (p:=⟨w.heap.size+1,0,none⟩) (by show w.heap.size+1<_;rw [ownQ_size];omega)).trans (ownQ_int ..)
  obtain ⟨hcap,h0 | ⟨b,o,rfl,hMs⟩⟩:=HM.out.later hB
  ·omega
  have hpl:=places_own 160 w.heap.size (w.heap.size+1) parts1_in (some ⟨b,o,none⟩) d.n cap (partB d.mem k) w1 hd2 (fun j w' hj hw'=>parts1_any b o d.n cap j w.heap.size (w.heap.size+1) d.mem k w' hj hd2 (hMs.later hw') ((hw'.cell (p:=⟨w.heap.size,2,none⟩) (by show w.heap.size<_;omega)).trans h2) ((hw'.cell (p:=⟨w.heap.size+1,0,none⟩) hz).trans h3))
  have HB:Hid (Below w.heap.size w w1):=hB
  clear hb1 hck hMs h3 hB
  go_wp2_with fail
  refine hpl.mono ?_
  rintro e w2 ⟨⟨v2,rfl,hO2⟩,hb2⟩
  have HO2:Hid (w2.ownsRow w1.heap.size 3 1 v2 (selTo (partB d.mem k) d.n).length (mapI (selTo (partB d.mem k) d.n))):=hO2
  have HB2:Hid (Below w.heap.size w w2):=onB HB.out hb2
  clear hO2 hb2 hpl
  go_wp2_with fail
  go_ret2
  exact ⟨⟨v2,rfl,own_low HO2.out HB.out.size⟩,HB2.out⟩
end Go.Proofs.YtinebmjpdkjooaaGreatDoor
namespace Go.Proofs
open Go.Shelf
def Tryz.lays166_ren:Go.Shelf.Ren:=⟨fun | 166=>18 | 240=>43 | 276=>62 | n=>n,fun | 0=>0 | 3=>3 | 4=>4 | 9=>9 | 20=>20 | 37=>56 | 70=>55 | 72=>58 | 75=>29 | 164=>113 | 5=>5 | 80=>64 | n=>n,fun | n=>n⟩
theorem Tryz.lays166:Go.Proofs.Lays.n166 Tryz.prog Tryz.lays166_ren:={
 mixed:=by kernel_rfl
 f166:=Tryz.func18.trans (congrArg some (by kernel_rfl))
 f240:=Tryz.func43.trans (congrArg some (by kernel_rfl))
 f276:=Tryz.func62.trans (congrArg some (by kernel_rfl))
 t0:=Tryz.underlying0
 a0:=Tryz.isAgg0
 z0:=Tryz.sizeOf0
 v0:=Tryz.zeroValue0
 t3:=Tryz.underlying3
 a3:=Tryz.isAgg3
 z3:=Tryz.sizeOf3
 v3:=Tryz.zeroValue3
 t4:=Tryz.underlying4
 a4:=Tryz.isAgg4
 z4:=Tryz.sizeOf4
 v4:=Tryz.zeroValue4
 t9:=Tryz.underlying9
 a9:=Tryz.isAgg9
 z9:=Tryz.sizeOf9
 v9:=Tryz.zeroValue9
 t20:=Tryz.underlying20
 a20:=Tryz.isAgg20
 z20:=Tryz.sizeOf20
 v20:=Tryz.zeroValue20
 t37:=Tryz.underlying56
 a37:=Tryz.isAgg56
 z37:=Tryz.sizeOf56
 v37:=Tryz.zeroValue56
 t70:=Tryz.underlying55
 a70:=Tryz.isAgg55
 z70:=Tryz.sizeOf55
 v70:=Tryz.zeroValue55
 t72:=Tryz.underlying58
 a72:=Tryz.isAgg58
 z72:=Tryz.sizeOf58
 v72:=Tryz.zeroValue58
 t75:=Tryz.underlying29
 a75:=Tryz.isAgg29
 z75:=Tryz.sizeOf29
 v75:=Tryz.zeroValue29
 t164:=Tryz.underlying113
 a164:=Tryz.isAgg113
 z164:=Tryz.sizeOf113
 v164:=Tryz.zeroValue113 }
theorem Tryz.extra166:Builder.Extra Tryz.prog Tryz.lays166_ren:={
 sizeBuilder:=by kernel_rfl
 liesBuilder:=by kernel_rfl
 t5:=Tryz.underlying5
 a5:=Tryz.isAgg5
 z5:=Tryz.sizeOf5
 v5:=Tryz.zeroValue5
 infoByte:=by kernel_rfl
 cellsByte:=by kernel_rfl
 sizeByte:=by kernel_rfl
 neB5:=by decide }
def Tryz.lays169_ren:Go.Shelf.Ren:=⟨fun | 169=>25 | n=>n,fun | 0=>0 | 3=>3 | 9=>9 | 37=>56 | 70=>55 | 72=>58 | 127=>91 | 5=>5 | n=>n,fun | n=>n⟩
theorem Tryz.lays169:Go.Proofs.Lays.n169 Tryz.prog Tryz.lays169_ren:={
 mixed:=by kernel_rfl
 f169:=Tryz.func25.trans (congrArg some (by kernel_rfl))
 t0:=Tryz.underlying0
 a0:=Tryz.isAgg0
 z0:=Tryz.sizeOf0
 v0:=Tryz.zeroValue0
 t3:=Tryz.underlying3
 a3:=Tryz.isAgg3
 z3:=Tryz.sizeOf3
 v3:=Tryz.zeroValue3
 t9:=Tryz.underlying9
 a9:=Tryz.isAgg9
 z9:=Tryz.sizeOf9
 v9:=Tryz.zeroValue9
 t37:=Tryz.underlying56
 a37:=Tryz.isAgg56
 z37:=Tryz.sizeOf56
 v37:=Tryz.zeroValue56
 t70:=Tryz.underlying55
 a70:=Tryz.isAgg55
 z70:=Tryz.sizeOf55
 v70:=Tryz.zeroValue55
 t72:=Tryz.underlying58
 a72:=Tryz.isAgg58
 z72:=Tryz.sizeOf58
 v72:=Tryz.zeroValue58
 t127:=Tryz.underlying91
 a127:=Tryz.isAgg91
 z127:=Tryz.sizeOf91
 v127:=Tryz.zeroValue91 }
theorem Tryz.extra169:Builder.Extra Tryz.prog Tryz.lays169_ren:={
 sizeBuilder:=by kernel_rfl
 liesBuilder:=by kernel_rfl
 t5:=Tryz.underlying5
 a5:=Tryz.isAgg5
 z5:=Tryz.sizeOf5
 v5:=Tryz.zeroValue5
 infoByte:=by kernel_rfl
 cellsByte:=by kernel_rfl
 sizeByte:=by kernel_rfl
 neB5:=by decide }
end Go.Proofs
