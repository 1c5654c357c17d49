/-
  What strings.SplitN answers of a text at a blank, of five pieces at the most; what a place's word may be; in whatever memory.
-/
import Derived.Test.YtinebmjpdkjooaaGreatDoorJZAT
import Derived.Test.YtinebmjpdkjooaaGreatDoorJZAU
namespace Go.Proofs.YtinebmjpdkjooaaGreatDoor
open Go Go.ChangeShapes Go.WideShapes Go.ChangeAt Go.RowKit
set_option maxRecDepth 20000
theorem pcs_one {c:UInt8} {x:ByteArray} (h:Lib.indexByte x.data.toList c = -1):piecesC c x=[x]:=by
 unfold piecesC
 rw [cut_miss h,List.map_singleton,byte_ext rfl]
theorem pcs_more {c:UInt8} {x:ByteArray} {i:Nat} (h:Lib.indexByte x.data.toList c=i):i+1≤x.size∧piecesC c x=x.extract 0 i :: piecesC c (x.extract (i+1) x.size):=by
 obtain ⟨h1,h2⟩:=cut_hit h
 have hsz:x.data.toList.length=x.size:=by simp
 refine ⟨by omega,?_⟩
 unfold piecesC
 rw [h2,List.map_cons,byte_ext (Lib.extract_from_zero x i),Lib.extract_to_end]
def FewW (P W:List ByteArray):Prop:=1≤W.length∧W.length≤5∧(P.length≤4→W=P)∧(5≤P.length→W.length=5)
theorem few_last {P done:List ByteArray} {rest:ByteArray} {N:Nat} (h:done ++ piecesC 32 rest=P) (hd:done.length+1=N) (hN:N=5∨P.length≤N) (hN5:N≤5):FewW P (done ++ [rest]):=by
 have hp:=piecesC_pos 32 rest
 have hl:P.length=done.length+(piecesC 32 rest).length:=by rw [←h,List.length_append]
 refine ⟨by simp,by simp;omega,fun h4=>?_,fun h5=>by simp;omega⟩
 have h1:(piecesC 32 rest).length=1:=by omega
 have h2:=Lib.indexByte_ge rest.data.toList 32
 by_cases h3:Lib.indexByte rest.data.toList 32 = -1
 ·rw [←h,pcs_one h3]
 ·obtain ⟨i,hi⟩:∃ i:Nat,Lib.indexByte rest.data.toList 32=i:=⟨(Lib.indexByte rest.data.toList 32).toNat,by omega⟩
  have h5:=(pcs_more hi).2
  have h6:=piecesC_pos 32 (rest.extract (i+1) rest.size)
  rw [h5,List.length_cons] at h1
  omega
theorem few_one {P done:List ByteArray} {rest:ByteArray} {N:Nat} (h:done ++ piecesC 32 rest=P) (hm:Lib.indexByte rest.data.toList 32 = -1) (hd:done.length+1≤N) (hN5:N≤5):FewW P (done ++ [rest]):=by
 rw [pcs_one hm] at h
 rw [h]
 have hl:P.length=done.length+1:=by rw [←h];simp
 exact ⟨by omega,by omega,fun _=>rfl,fun _=>by omega⟩
set_option maxHeartbeats 4000000 in
theorem sgsplit_any (s:ByteArray) (w:World) (hs:s.size≤4611686018427387904):Calls Tryz.prog 104 #[.string s,.string ⟨#[32]⟩,.int .i64 0,.int .i64 5] w fun e w' => ∃ W N,e=.returned (.slice (some ⟨w.heap.size,0,none⟩) W.length N)∧w'=w.alloc (.cells (Lib.cellsOf W N) 9)∧W.length≤N∧FewW (piecesC 32 s) W:=by
 have hix:∀ (t:ByteArray) (w:World),Calls Tryz.prog 114 #[.string t,.string ⟨#[32]⟩] w fun e w'=>e=.returned (.int .i64 (Lib.indexByte t.data.toList 32))∧w'=w:=fun t w=>Any.strings_Index_one Tryz.lays143 t 32 w
 have hple:=piecesC_le 32 s
 obtain ⟨N,hn⟩:∃ N,min 5 (s.size+1)=N:=⟨_,rfl⟩
 have hN5:N≤5:=by omega
 have hN1:1≤N:=by omega
 have HNs:Hid (N=5∨(piecesC 32 s).length≤N):=by show _∨_;omega
 have hmk:=run_make_row' (P:=Tryz.prog) 67 9 (.string ByteArray.empty) 16 Tryz.underlying67 Tryz.infoStr rfl .i64 .i64 N (by omega) (by omega)
 have hsz:(s.size:Int)≤4611686018427387904:=by omega
 have hN4:(N:Int)≤5:=by omega
 have hNi:(1:Int)≤(N:Int):=by omega
 have hmn:min (5:Int) ((s.size:Int)+1)=(N:Int):=by omega
 have HIX:=hid_of hix
 clear hn hple hix
 go_enter Tryz.func104,Tryz.ntmps104
 go_wp2_with fail
 clear hmk hmn
 go_loopg [0,10,11] (N-1) (fun g s0 s10 s11 wr => ∃ (done:List ByteArray) (rest:ByteArray),s0=.string rest∧s10=.int .i64 done.length∧done.length≤N-1∧g=N-1-done.length∧rest.size≤s.size∧wr=w.alloc (.cells (Lib.cellsOf done N) 9)∧done ++ piecesC 32 rest=piecesC 32 s)
 case atStart=>exact ⟨[],s,rfl,rfl,Nat.zero_le _,rfl,Nat.le_refl _,by rw [Lib.cellsOf_nil],rfl⟩
 case round =>
  obtain ⟨done,rest,rfl,rfl,hd,rfl,hrs,rfl,hsp⟩:=hrel
  have hnext:(Lib.cellsOf done N)[done.length]?=some (.string ByteArray.empty):=Lib.cellsOf_next (by omega)
  have HS:Hid (done ++ piecesC 32 rest=piecesC 32 s):=hsp
  have hx:=fun w=>HIX.out rest w
  have HD1:Hid (done.length+1≤N):=by show _≤_;omega
  have hw1:(done.length:Int)+1≤(N:Int):=by omega
  have HF:Hid ((Lib.cellsOf done N).setIfInBounds done.length (.string rest)=Lib.cellsOf (done ++ [rest]) N):=by
   show _=_
   rw [Lib.cellsOf_set (by omega)]
  clear hsp
  by_cases hlt:done.length<N-1
  ·have hltz:((done.length:Nat):Int)<(N:Int)-1:=by omega
   have hge:=Lib.indexByte_ge rest.data.toList 32
   by_cases hm:Lib.indexByte rest.data.toList 32 = -1
   ·have HM:=hid_of hm
    rw [hm] at hx
    clear hge hm
    go_wp2_with fail
    refine (hx _).mono ?_
    rintro e w2 ⟨rfl,rfl⟩
    go_wp2_with fail
    go_ret
    refine ⟨done ++ [rest],N,?_,?_,?_,few_one HS.out HM.out HD1.out hN5⟩
    ·simp only [List.length_append,List.length_singleton];rfl
    ·rw [←HF.out]
    ·simpa using HD1.out
   ·obtain ⟨i,hi⟩:∃ i:Nat,Lib.indexByte rest.data.toList 32=i:=⟨(Lib.indexByte rest.data.toList 32).toNat,by omega⟩
    obtain ⟨hroom,hpc⟩:=pcs_more hi
    rw [hi] at hx
    have HP:Hid (piecesC 32 rest=rest.extract 0 i :: piecesC 32 (rest.extract (i+1) rest.size)):=hpc
    have c0 : ¬ ((i:Int)<0):=by omega
    have c2:(i:Int)≤(rest.size:Int):=by omega
    have c4:(i:Int)+1≤(rest.size:Int):=by omega
    have c5:(rest.size:Int)≤4611686018427387904:=by omega
    clear hpc hi hm hge
    go_wp2_with fail
    refine (hx _).mono ?_
    rintro e w2 ⟨rfl,rfl⟩
    go_wp2_with fail
    go_roundg (N-1-(done.length+1))
    case measure=>omega
    case rel =>
     refine ⟨done ++ [rest.extract 0 i],rest.extract (i+1) rest.size,rfl,by simp,by simp;omega,by simp,by rw [ByteArray.size_extract];omega,by rw [←Lib.cellsOf_set (by omega)],?_⟩
     rw [←HS.out,HP.out]
     simp
  ·have hltz : ¬ (((done.length:Nat):Int)<(N:Int)-1):=by omega
   have hdn:done.length+1=N:=by omega
   have HDN:=hid_of hdn
   clear hx
   go_wp2_with fail
   go_ret
   refine ⟨done ++ [rest],N,?_,?_,?_,few_last HS.out HDN.out HNs.out hN5⟩
   ·rw [List.length_append,List.length_singleton,HDN.out];rfl
   ·rw [←HF.out]
   ·simpa using HD1.out
theorem ssplit_any (s:ByteArray) (w:World) (hs:s.size≤4611686018427387904):Calls Tryz.prog 73 #[.string s,.string ⟨#[32]⟩,.int .i64 5] w fun e w' => ∃ W N,e=.returned (.slice (some ⟨w.heap.size,0,none⟩) W.length N)∧w'=w.alloc (.cells (Lib.cellsOf W N) 9)∧W.length≤N∧FewW (piecesC 32 s) W:=by
 have h:=sgsplit_any s w hs
 generalize piecesC 32 s=P at h
 clear hs
 go_enter Tryz.func73,Tryz.ntmps73
 go_wp2_with fail
 refine h.mono ?_
 rintro e w1 ⟨W,N,rfl,rfl,h1,h2⟩
 have H2:=hid_of h2
 have H1:=hid_of h1
 obtain ⟨cs,hcs⟩:∃ cs,Lib.cellsOf W N=cs:=⟨_,rfl⟩
 obtain ⟨L,hL⟩:∃ L,W.length=L:=⟨_,rfl⟩
 have HC:=hid_of hcs
 have HL:=hid_of hL
 rw [hcs,hL]
 clear h2 h1 hcs hL
 go_wp2_with fail
 go_ret
 exact ⟨W,N,by rw [HL.out];rfl,by rw [HC.out],H1.out,H2.out⟩
theorem any_61:∀ l:List UInt8,(cutB 46 l).any (fun p=>p.any badW)=l.contains 61
 | []=>rfl
 | x :: t=>by
  have ih:=any_61 t
  rw [List.contains_cons,←ih,cutB]
  by_cases hx:x=46
  ·subst hx
   rw [if_pos rfl]
   rfl
  ·rw [if_neg hx]
   have hb:badW x=((61:UInt8) == x):=by
    unfold badW
    rw [show (x == 46)=false by simpa using hx,Bool.or_false,Bool.beq_comm]
   cases hs:cutB 46 t with
   | nil=>exact absurd hs (cutB_ne 46 t)
   | cons a r=>simp only [List.any_cons,hb,Bool.or_assoc]
theorem all_nmW (s:ByteArray):(piecesC 46 s).all nmW=(!s.data.toList.contains 61 && !(cutB 46 s.data.toList).any List.isEmpty):=by
 rw [←any_61]
 unfold piecesC
 generalize cutB 46 s.data.toList=L
 induction L with
 | nil=>rfl
 | cons a r ih =>
  simp only [List.map_cons,List.all_cons,List.any_cons,ih]
  have:nmW ⟨a.toArray⟩=(!a.any badW && !a.isEmpty):=by unfold nmW;rfl
  rw [this]
  cases a.any badW <;> cases a.isEmpty <;> simp
theorem splace_any (s:ByteArray) (w:World) (hE:EnvS w) (hs:s.size≤1048576):Calls Tryz.prog 111 #[.string s] w fun e w'=>e=.returned (.bool ((piecesC 46 s).all nmW))∧Below w.heap.size w w':=by
 obtain ⟨-,-,-,m,hm⟩:=hE
 have h1:=Any.strings_Contains_one Tryz.lays144 s 61 w
 rw [←Lib.contains_iff_indexByte] at h1
 have hl:((⟨#[46]⟩:ByteArray) ++ s ++ ⟨#[46]⟩).data.toList=46 :: (s.data.toList ++ [46]):=by
  rw [ByteArray.data_append,ByteArray.data_append,Array.toList_append,Array.toList_append]
  rfl
 have hz:((⟨#[46]⟩:ByteArray) ++ s ++ ⟨#[46]⟩).size<4294967281:=by rw [Lib.size_eq,hl];simp;omega
 have h2:=Any.strings_Contains Tryz.lays144 (⟨#[46]⟩ ++ s ++ ⟨#[46]⟩) ⟨#[46,46]⟩ m w hz hm
 rw [hl,show (⟨#[46,46]⟩:ByteArray).data.toList=[46,46] from rfl,(dots_pieces s.data.toList).1] at h2
 rw [all_nmW]
 generalize s.data.toList.contains 61=a at h1
 generalize (cutB 46 s.data.toList).any List.isEmpty=b at h2
 have hsz:(s.size:Int)≤1048576:=by omega
 have z1:(((⟨#[46]⟩:ByteArray).size:Nat):Int)=1:=rfl
 have z2:(((⟨#[46]⟩:ByteArray) ++ s).size:Int)≤1048577:=by rw [ByteArray.size_append];show ((1+s.size:Nat):Int)≤_;omega
 clear hl hz hm hs
 cases a
 ·cases b
  all_goals
   go_enter Tryz.func111,Tryz.ntmps111
   go_wp2_with fail
   refine h1.mono ?_
   rintro e w1 ⟨rfl,rfl⟩
   go_wp2_with fail
   refine h2.mono ?_
   rintro e w2 ⟨rfl,rfl⟩
   go_wp2_with fail
   go_ret
   exact ⟨rfl,Below.refl _ _⟩
 ·clear h2
  go_enter Tryz.func111,Tryz.ntmps111
  go_wp2_with fail
  refine h1.mono ?_
  rintro e w1 ⟨rfl,rfl⟩
  go_wp2_with fail
  go_ret
  exact ⟨rfl,Below.refl _ _⟩
end Go.Proofs.YtinebmjpdkjooaaGreatDoor
namespace Go.Proofs.YtinebmjpdkjooaaGreatDoor
open Go.ChangeShapes Go.WideShapes Go.ChangeAt Go.RowKit
set_option maxRecDepth 20000
def RInv (N:List (List Int)) (i:Nat) (L:List Int) (k:Nat):Prop:=L.Nodup∧(∀ x∈L,Rch N i x)∧(∀ x∈N.getD i [],x∈L)∧∀ j,j<k→∀ y∈rowN N (L.getD j 0),y∈L
theorem rinv_start {N:List (List Int)} {i:Nat} (h:(N.getD i []).Nodup):RInv N i (N.getD i []) 0 :=
 ⟨h,fun x hx=>.one (by unfold rowN;simpa using hx),fun _ h=>h,fun j hj=>absurd hj (Nat.not_lt_zero _)⟩
theorem rinv_in {N:List (List Int)} {i:Nat} {L:List Int} {k:Nat} (h:RInv N i L k) (hN:Inn N) (hi:i<N.length):∀ x∈L,0≤x∧x<(N.length:Int):=fun x hx=>(h.2.1 x hx).inn hN (by omega) (by omega)
theorem rinv_len {N:List (List Int)} {i:Nat} {L:List Int} {k:Nat} (h:RInv N i L k) (hN:Inn N) (hi:i<N.length):L.length≤N.length:=few _ _ h.1 (rinv_in h hN hi)
theorem rinv_end {N:List (List Int)} {i:Nat} {L:List Int} (h:RInv N i L L.length):∀ x,x∈L↔Rch N i x:=fun x=>by
 refine ⟨h.2.1 x,fun hr=>hr.closed (S:=fun y=>y∈L) (fun y hy=>h.2.2.1 y (by unfold rowN at hy;simpa using hy)) fun y hy z hz=>?_⟩
 obtain ⟨j,hj,rfl⟩:=List.getElem_of_mem hy
 refine h.2.2.2 j hj z ?_
 rw [List.getD_eq_getElem?_getD,List.getElem?_eq_getElem hj]
 exact hz
theorem getD_app {L T:List Int} {j:Nat} (h:j<L.length):(L ++ T).getD j 0=L.getD j 0:=by
 rw [List.getD_eq_getElem?_getD,List.getD_eq_getElem?_getD,List.getElem?_append_left h]
theorem rinv_put {N:List (List Int)} {i:Nat} {L:List Int} {k:Nat} {x:Int} (h:RInv N i L k) (hk:k≤L.length) (hx:x∉L) (hr:Rch N i x):RInv N i (L ++ [x]) k:=by
 refine ⟨?_,fun y hy=>?_,fun y hy=>List.mem_append_left _ (h.2.2.1 y hy),fun j hj y hy=>?_⟩
 ·rw [List.nodup_append]
  refine ⟨h.1,by simp,fun a ha b hb e=>?_⟩
  rw [List.mem_singleton.1 hb] at e
  exact hx (e ▸ ha)
 ·rcases List.mem_append.1 hy with hy | hy
  ·exact h.2.1 y hy
  ·rw [List.mem_singleton.1 hy];exact hr
 ·rw [getD_app (by omega)] at hy
  exact List.mem_append_left _ (h.2.2.2 j hj y hy)
theorem rinv_next {N:List (List Int)} {i:Nat} {L:List Int} {k:Nat} (h:RInv N i L k) (hy:∀ y∈rowN N (L.getD k 0),y∈L):RInv N i L (k+1) :=
 ⟨h.1,h.2.1,h.2.2.1,fun j hj y hyj=>by
  by_cases e:j=k
  ·rw [e] at hyj;exact hy y hyj
  ·exact h.2.2.2 j (by omega) y hyj⟩
theorem mem_at {L:List Int} {j:Nat} (h:j<L.length):L.getD j 0∈L:=by
 rw [List.getD_eq_getElem?_getD,List.getElem?_eq_getElem h]
 exact List.getElem_mem h
set_option maxHeartbeats 4000000 in
theorem rureach_any (A:Option Addr) (cap:Nat) (xs:List RL) (i:Nat) (w:World) (hn:xs.length≤12) (hi:i<xs.length) (hN:Inn (lR xs)) (hnd:∀ x∈xs,x.p.Nodup∧x.p.length≤12) (hR:RowsV w A cap xs) :
  Calls Tryz.prog 91 #[.slice A xs.length cap,.int .i64 i] w fun e w'=>(∃ A' c' L,e=.returned (.slice A' L.length c')∧IntsAt w' A' c' L∧L.length≤12∧∀ x,x∈L↔Rch (lR xs) i x)∧Below w.heap.size w w':=by
 obtain ⟨i0,hi0,hz0,hz1,hz2⟩:=info_parts Tryz.infoInt
 have HR:Hid (RowsV w A cap xs):=hR
 have HNd:Hid (∀ x∈xs,x.p.Nodup∧x.p.length≤12):=hnd
 have HIn:Hid (Inn (lR xs)):=hN
 have HLen:Hid ((lR xs).length=xs.length):=lR_len xs
 obtain ⟨hcap,h0 | ⟨b,rfl,hbw,hcell⟩,hrows⟩:=hR
 ·rw [h0] at hi;simp at hi
 have hci:=hcell i hi
 have hri:=hrows _ (rl_mem hi)
 have hni:=hnd _ (rl_mem hi)
 have HC:Hid (∀ k,k<xs.length→w.cell? ⟨b,k,none⟩=some (.slice (xs.getD k noR).A (xs.getD k noR).p.length (xs.getD k noR).c)):=hcell
 have HRw:Hid (∀ x∈xs,IntT w x.A x.c x.p):=hrows
 have HSt:Hid (RInv (lR xs) i (xs.getD i noR).p 0):=by
  have h:=rinv_start (N:=lR xs) (i:=i) (by rw [lR_at];exact hni.1)
  rw [lR_at] at h
  exact h
 have hcl:=iclone_any (xs.getD i noR).A (xs.getD i noR).c (xs.getD i noR).p w hni.2 hri
 obtain ⟨n,hnn⟩:∃ n,xs.length=n:=⟨_,rfl⟩
 have HX:Hid (xs.length=n):=hnn
 rw [hnn] at hn hi hcap ⊢
 have hii:(i:Int)<(n:Int):=by omega
 have hnI:(n:Int)≤12:=by omega
 obtain ⟨pi,hpi⟩:∃ pi,(xs.getD i noR).p=pi:=⟨_,rfl⟩
 rw [hpi] at hci hcl HSt
 generalize (xs.getD i noR).A=Ai at hci hcl
 generalize (xs.getD i noR).c=ci at hci hcl
 clear hcell hrows hnd hN hri hni hpi hnn
 go_enter Tryz.func91,Tryz.ntmps91
 go_wp2_with fail
 refine hcl.mono ?_
 rintro e w1 ⟨⟨v1,rfl,hO1⟩,hb1⟩
 have HO1:Hid (w1.ownsRow w.heap.size 3 1 v1 pi.length (mapI pi)):=hO1
 have HB1:Hid (Below w.heap.size w w1):=hb1
 clear hO1 hb1 hcl hci
 go_wp2_with fail
 go_loopg [5,6] n (fun g s5 s6 wr => ∃ (k:Nat) (L:List Int),k≤L.length∧g=n-k∧s6=.int .i64 k∧Hid (RInv (lR xs) i L k)∧wr.ownsRow w.heap.size 3 1 s5 L.length (mapI L)∧Below w.heap.size w wr)
 case atStart=>exact ⟨0,pi,Nat.zero_le _,rfl,rfl,HSt,HO1.out,HB1.out⟩
 case round =>
  obtain ⟨k,L,hk,rfl,rfl,HI,hown,hBw⟩:=hrel
  have HBw:Hid (Below w.heap.size w wr):=hBw
  have HO:Hid (wr.ownsRow w.heap.size 3 1 u5 L.length (mapI L)):=hown
  have hLn:L.length≤n:=by rw [←HX.out,←HLen.out];exact rinv_len HI.out HIn.out (by rw [HLen.out,HX.out];exact hi)
  obtain ⟨AL,cL,rfl,hIL⟩:=intT_own hown
  obtain ⟨m,hm⟩:∃ m,L.length=m:=⟨_,rfl⟩
  have HM:Hid (L.length=m):=hm
  have hmI:(m:Int)≤12:=by omega
  rw [hm] at hk hLn
  rw [hm]
  by_cases hlt:k<m
  ·have hki:(k:Int)<(m:Int):=by omega
   obtain ⟨hcL,-,hL0 | ⟨bl,cs,fr,rfl,hbl,hcl⟩⟩:=hIL
   ·rw [hL0] at hm;simp at hm;omega
   have cx:=hcl k (by omega)
   have hx:=rinv_in HI.out HIn.out (by rw [HLen.out,HX.out];exact hi) _ (mem_at (L:=L) (j:=k) (by omega))
   rw [HLen.out,HX.out] at hx
   obtain ⟨y,hy⟩:∃ y:Nat,L.getD k 0=(y:Int):=⟨(L.getD k 0).toNat,by omega⟩
   have HY:Hid (L.getD k 0=(y:Int)):=hy
   rw [hy] at cx hx
   have hyn:y<n:=by omega
   have hyi:(y:Int)<(n:Int):=by omega
   have cy:=(hBw.cell (p:=⟨b,y,none⟩) hbw).trans (HC.out y (by rw [HX.out];exact hyn))
   have HRy:Hid (IntT w (xs.getD y noR).A (xs.getD y noR).c (xs.getD y noR).p):=HRw.out _ (rl_mem (by rw [HX.out];exact hyn))
   have hry:=(HNd.out _ (rl_mem (k:=y) (by rw [HX.out];exact hyn))).2
   have HRow:Hid (rowN (lR xs) (L.getD k 0)=(xs.getD y noR).p):=by
    show _=_
    rw [hy]
    unfold rowN
    rw [Int.toNat_natCast,lR_at]
   have HRk:Hid (Rch (lR xs) i (L.getD k 0)):=HI.out.2.1 _ (mem_at (by omega))
   obtain ⟨R,hRe⟩:∃ R,(xs.getD y noR).p=R:=⟨_,rfl⟩
   rw [hRe] at cy HRy hry HRow
   generalize (xs.getD y noR).A=Ay at cy HRy
   generalize (xs.getD y noR).c=cy' at cy HRy
   obtain ⟨r,hr⟩:∃ r,R.length=r:=⟨_,rfl⟩
   have HRl:Hid (R.length=r):=hr
   rw [hr] at cy hry
   have hrI:(r:Int)≤12:=by omega
   have hblt:bl<wr.heap.size:=(Array.getElem?_eq_some_iff.1 hbl).1
   clear hcl hx hown hBw hbl hy hRe hr hm
   go_wp2_with fail
   go_loopg [5,28] r (fun gg s5 s28 wi => ∃ (j:Nat) (K:List Int),j≤r∧gg=r-j∧s28=.int .i64 j∧Hid (RInv (lR xs) i K k∧(∃ T,K=L ++ T)∧∀ t,t<j→R.getD t 0∈K)∧wi.ownsRow w.heap.size 3 1 s5 K.length (mapI K)∧Below w.heap.size w wi)
   case atStart=>exact ⟨0,L,Nat.zero_le _,rfl,rfl,(⟨HI.out,⟨[],by simp⟩,fun t ht=>absurd ht (Nat.not_lt_zero _)⟩:_∧_∧_),by have h:=HO.out;rw [HM.out] at h;rw [HM.out];exact h,HBw.out⟩
   case round =>
    obtain ⟨wj,rfl⟩:∃ wj:World,wj=wr:=⟨_,rfl⟩
    obtain ⟨j,K,hj,rfl,rfl,HK,hown,hBj⟩:=hrel
    have HBj:Hid (Below w.heap.size w wj):=hBj
    have HOj:Hid (wj.ownsRow w.heap.size 3 1 u5 K.length (mapI K)):=hown
    have hKn:K.length≤n:=by rw [←HX.out,←HLen.out];exact rinv_len HK.out.1 HIn.out (by rw [HLen.out,HX.out];exact hi)
    obtain ⟨AK,cK,rfl,hIK⟩:=intT_own hown
    by_cases hjl:j<r
    ·have hji:(j:Int)<(r:Int):=by omega
     obtain ⟨hcR,-,hR0 | ⟨br,csr,frr,rfl,hbr,hcr⟩⟩:=HRy.out.later hBj
     ·have:=HRl.out;rw [hR0] at this;simp at this;omega
     have cz:=hcr j (by rw [HRl.out];exact hjl)
     have hbrl:br<wj.heap.size:=(Array.getElem?_eq_some_iff.1 hbr).1
     rw [HRl.out] at hcR
     have hcRi:(r:Int)≤(cy':Int):=by omega
     obtain ⟨x,hx⟩:∃ x,R.getD j 0=x:=⟨_,rfl⟩
     have HXx:Hid (R.getD j 0=x):=hx
     rw [hx] at cz
     have hct:=contains_ints AK cK K x wj (by omega) hIK.at
     obtain ⟨mk,hmk⟩:∃ mk,K.length=mk:=⟨_,rfl⟩
     have HMk:Hid (K.length=mk):=hmk
     have HKn:Hid (mk≤n):=by show _≤_;omega
     rw [hmk] at hct hKn
     rw [hmk]
     clear hcr hbr hown hBj hIK hx hmk
     by_cases hin:x∈K
     ·have hb:inB K x=true:=by unfold inB;exact decide_eq_true hin
      rw [hb] at hct
      have HK2:Hid (RInv (lR xs) i K k∧(∃ T,K=L ++ T)∧∀ t,t<j+1→R.getD t 0∈K):=⟨HK.out.1,HK.out.2.1,fun t ht=>by
       by_cases e:t=j
       ·rw [e,HXx.out];exact hin
       ·exact HK.out.2.2 t (by omega)⟩
      clear hb hin
      go_wp2_with fail
      refine hct.mono ?_
      rintro e w2 ⟨rfl,hb2⟩
      have HB2:Hid (Below w.heap.size w w2):=onB HBj.out hb2
      have HO2:Hid (w2.ownsRow w.heap.size 3 1 (.slice AK mk cK) K.length (mapI K)):=by have h:=own_later HOj.out hb2;rw [HMk.out] at h;show World.ownsRow ..;rw [HMk.out];exact h
      clear hb2 hct
      go_wp2_with fail
      go_roundg (r-(j+1))
      case measure=>omega
      case rel=>exact ⟨j+1,K,by omega,rfl,by go_num,HK2,HO2.out,HB2.out⟩
     ·have hb:inB K x=false:=by unfold inB;exact decide_eq_false hin
      rw [hb] at hct
      have HK2:Hid (RInv (lR xs) i (K ++ [x]) k∧(∃ T,K ++ [x]=L ++ T)∧∀ t,t<j+1→R.getD t 0∈K ++ [x]):=by
       obtain ⟨hI,⟨T,hT⟩,hA⟩:=HK.out
       refine ⟨rinv_put hI ?_ hin ?_,⟨T ++ [x],by rw [hT,List.append_assoc]⟩,fun t ht=>?_⟩
       ·rw [hT,List.length_append,HM.out];omega
       ·refine HRk.out.snoc ?_
        rw [HRow.out,←HXx.out]
        exact mem_at (by rw [HRl.out];exact hjl)
       ·by_cases e:t=j
        ·rw [e,HXx.out];simp
        ·exact List.mem_append_left _ (hA t (by omega))
      clear hb hin
      go_wp2_with fail
      refine hct.mono ?_
      rintro e w2 ⟨rfl,hb2⟩
      have hB2:Below w.heap.size w w2:=onB HBj.out hb2
      have HB2:Hid (Below w.heap.size w w2):=hB2
      have HO2:Hid (w2.ownsRow w.heap.size 3 1 (.slice AK mk cK) mk (mapI K)):=by have h:=own_later HOj.out hb2;rw [HMk.out] at h;exact h
      have hsz:=hB2.size
      clear hb2 hct hB2
      go_wp2_with (at_builtin;refine wpList_append_own _ rfl _ _ 48 rfl w.heap.size 3 i0 (.int .i64 0) 1 8 Tryz.underlying48 hi0 hz0 hz1 hz2 rfl (by decide) _ _ _ rfl (HO2.out.alloc _) ⟨w2.heap.size,0,none⟩ 1 1 [.int .i64 x] rfl rfl one_cell one_one (by have:=HKn.out;unfold maxLen;omega) (by have:=HKn.out;omega) (by simp;omega) ?_)
      intro v' w3 hown' hgrow _
      have HB3:Hid (Below w.heap.size w w3):=grown_own HB2.out HO2.out hgrow
      have HO3:Hid (w3.ownsRow w.heap.size 3 1 v' (K ++ [x]).length (mapI (K ++ [x]))):=by
       show World.ownsRow ..
       rw [mapI_snoc,List.length_append,HMk.out];exact hown'
      clear hown' hgrow
      go_wp2_with fail
      go_roundg (r-(j+1))
      case measure=>omega
      case rel=>exact ⟨j+1,K ++ [x],by omega,rfl,by go_num,HK2,HO3.out,HB3.out⟩
    ·have hje:j=r:=by omega
     subst hje
     have HI2:Hid (k+1≤K.length∧RInv (lR xs) i K (k+1)):=by
      obtain ⟨hI,⟨T,hT⟩,hA⟩:=HK.out
      refine ⟨by rw [hT,List.length_append,HM.out];omega,rinv_next hI fun y' hy'=>?_⟩
      rw [hT,getD_app (by rw [HM.out];exact hlt),HRow.out] at hy'
      obtain ⟨t,ht,rfl⟩:=List.getElem_of_mem hy'
      have h:=hA t (by rw [←HRl.out];exact ht)
      rw [List.getD_eq_getElem?_getD,List.getElem?_eq_getElem ht] at h
      exact h
     clear hown hBj hIK hKn
     go_wp2_with fail
     go_roundg (n-(k+1))
     case measure=>omega
     case rel=>exact ⟨k+1,K,HI2.out.1,rfl,by go_num,HI2.out.2,HOj.out,HBj.out⟩
  ·have hke:k=m:=by omega
   subst hke
   have HEnd:Hid (∀ x,x∈L↔Rch (lR xs) i x):=rinv_end (by rw [HM.out];exact HI.out)
   have HIL:Hid (IntsAt wr AL cL L):=hIL.at
   clear hown hBw hIL hm
   go_wp2_with fail
   go_ret
   exact ⟨⟨AL,cL,L,by rw [HM.out];rfl,HIL.out,by rw [HM.out];omega,HEnd.out⟩,HBw.out⟩
end Go.Proofs.YtinebmjpdkjooaaGreatDoor
