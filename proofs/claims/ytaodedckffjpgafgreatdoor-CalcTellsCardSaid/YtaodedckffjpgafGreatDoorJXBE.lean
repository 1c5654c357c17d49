/-
  Cells folded by a dim, on plain data: what comes of parts by their signs, member by member from the last; that cells that are right stay right; that a dim that is folded once more changes nothing.
-/
import Derived.Lib.AppendZerosOnto
import Derived.Test.YtaodedckffjpgafGreatDoorJXAW
import Derived.Test.YtaodedckffjpgafGreatDoorJXBA
namespace Go.Proofs.YtaodedckffjpgafGreatDoor
theorem prodN_pos {D:Nat→Dm} {n:Nat} (h:∀ j,j<n→1≤(D j).n):1≤prodN D n:=by
 induction n with
 | zero=>exact Nat.le_refl _
 | succ n ih =>
  have h1:=ih fun j hj=>h j (by omega)
  have h2:=h n (by omega)
  rw [prodN]
  exact Nat.mul_le_mul h1 h2
end Go.Proofs.YtaodedckffjpgafGreatDoor
namespace Go.Proofs.YtaodedckffjpgafGreatDoor
open Go Go.ChangeShapes Go.WideShapes Go.ChangeAt Go.RowKit
set_option maxRecDepth 20000
theorem grown_below {w w':World} {r:Option Nat} (h:Below w.heap.size w w'):w.grownBy w' r:=⟨h.os,h.tape,h.output,h.size,fun i hi _=>h.block i hi⟩
def PlTy (w:World) (A:Option Addr) (c:Nat) (L:List Int):Prop:=L.length≤c∧(L=[]∨∃ b o cs fr,A=some ⟨b,o,none⟩∧w.heap[b]?=some (.cells cs 3 fr)∧∀ j,j<L.length→w.cell? ⟨b,o+j,none⟩=some (.int .i64 (L.getD j 0)))
theorem PlTy.pl {w:World} {A:Option Addr} {c:Nat} {L:List Int} (h:PlTy w A c L):PlAt w A c L:=by
 obtain ⟨h1,h2 | ⟨b,o,cs,fr,h2,h3,h4⟩⟩:=h
 ·exact ⟨h1,Or.inl h2⟩
 ·exact ⟨h1,Or.inr ⟨b,o,h2,(Array.getElem?_eq_some_iff.1 h3).1,h4⟩⟩
theorem PlTy.later {w w':World} {A:Option Addr} {c:Nat} {L:List Int} (h:PlTy w A c L) (hB:Below w.heap.size w w'):PlTy w' A c L:=by
 obtain ⟨h1,h2 | ⟨b,o,cs,fr',h2,h3,h4⟩⟩:=h
 ·exact ⟨h1,Or.inl h2⟩
 ·have hb:w'.heap[b]?=w.heap[b]?:=hB.block b (Array.getElem?_eq_some_iff.1 h3).1
  exact ⟨h1,Or.inr ⟨b,o,cs,fr',h2,hb.trans h3,fun j hj=>(World.cell?_of_block (a:=⟨b,o+j,none⟩) hb).trans (h4 j hj)⟩⟩
variable {P:Program}
end Go.Proofs.YtaodedckffjpgafGreatDoor
namespace Go.Proofs.YtaodedckffjpgafGreatDoor
open Go.ChangeShapes Go.WideShapes Go.ChangeAt Go.RowKit
set_option maxRecDepth 20000
def inF (L:List Int) (j:Nat):Bool:=L.contains (j:Int)
theorem inF_next {L:List Int} {m:Nat} (j:Nat):inF (L ++ [(m:Int)]) j=if j=m then true else inF L j:=by
 unfold inF
 by_cases e:j=m
 ·subst e
  rw [if_pos rfl,List.contains_iff_mem]
  simp
 ·rw [if_neg e,Bool.eq_iff_iff,List.contains_iff_mem,List.contains_iff_mem,List.mem_append,List.mem_singleton]
  exact ⟨fun h=>h.resolve_right (by omega),Or.inl⟩
def okUpTo (L R:List Int) (j u:Nat):Bool := !(L.contains (j:Int)) && (R.take u).all fun x=>L.contains x
theorem okUpTo_next {L R:List Int} {j u:Nat} (h:okUpTo L R j u=true) (hu:u<R.length):okUpTo L R j (u+1)=L.contains (R.getD u 0):=by
 unfold okUpTo at *
 rw [Bool.and_eq_true] at h
 rw [h.1,Bool.true_and,List.take_succ_eq_append_getElem hu,List.all_append,h.2,Bool.true_and,List.getD_eq_getElem?_getD,List.getElem?_eq_getElem hu]
 simp
theorem okUpTo_end {N:List (List Int)} {L R:List Int} {j u:Nat} (hR:N.getD j []=R) (hu:u=R.length∨okUpTo L R j u=false):okUpTo L R j u=okN N L j:=by
 unfold okN
 rw [hR]
 rcases hu with hu | hu
 ·unfold okUpTo
  rw [List.take_of_length_le (by omega)]
 ·rw [hu]
  symm
  unfold okUpTo at hu
  rw [Bool.and_eq_false_iff] at hu ⊢
  rcases hu with hu | hu
  ·exact Or.inl hu
  ·right
   rw [List.all_eq_false] at hu ⊢
   obtain ⟨x,hx,h⟩:=hu
   exact ⟨x,List.mem_of_mem_take hx,h⟩
set_option maxHeartbeats 8000000 in
theorem behind_big (A:Option Addr) (cap:Nat) (xs:List RL) (w:World) (hn:xs.length≤3000) (hN:Inn (lR xs)) (hl:∀ x∈xs,x.p.length≤12) (hc:∀ i:Nat,i<(lR xs).length→cycB (lR xs) i=false) (hR:RowsV w A cap xs) :
  Calls Tryz.prog 29 #[.slice A xs.length cap] w fun e w'=>(∃ A' c',e=.returned (.slice A' (ordTo (lR xs) xs.length).length c')∧IntsAt w' A' c' (ordTo (lR xs) xs.length))∧Below w.heap.size w w':=by
 obtain ⟨i0,hi0,hz0,hz1,hz2⟩:=info_parts Tryz.infoInt
 have HR:Hid (RowsV w A cap xs):=hR
 have HLen:Hid ((lR xs).length=xs.length):=lR_len xs
 obtain ⟨n,hnn⟩:∃ n,xs.length=n:=⟨_,rfl⟩
 have HX:Hid (xs.length=n):=hnn
 have HSn:Hid (∀ k,k<n→∃ m:Nat,m<n∧okN (lR xs) (ordTo (lR xs) k) m=true∧(∀ j,j<m→okN (lR xs) (ordTo (lR xs) k) j=false)∧ordTo (lR xs) (k+1)=ordTo (lR xs) k ++ [(m:Int)]):=fun k hk=>by
  obtain ⟨m,-,h2,h3,h4,h5⟩:=ord_snoc hN hc (k:=k) (by rw [lR_len];omega)
  exact ⟨m,by rw [lR_len] at h2;omega,h3,h4,h5⟩
 have HOl:Hid (∀ k,k≤n→(ordTo (lR xs) k).length=k):=fun k hk=>ord_len hN hc k (by rw [lR_len];omega)
 have HLe:Hid (∀ j,j<n→(xs.getD j noR).p.length≤12∧∀ x∈(xs.getD j noR).p,0≤x∧x<(n:Int)):=fun j hj=>by
  refine ⟨hl _ (rl_mem (by rw [hnn];exact hj)),fun x hx=>?_⟩
  have h:=hN j (by rw [lR_len,hnn];exact hj) x (by rw [lR_at];exact hx)
  rw [lR_len,hnn] at h
  exact h
 rw [hnn] at hn ⊢
 have hnI:(n:Int)≤3000:=by omega
 have hmk:=run_make_row' (P:=Tryz.prog) 34 4 (.bool false) 1 Tryz.underlying34 Tryz.infoBol rfl .i64 .i64 n (by omega) (by omega)
 obtain ⟨W,hW⟩:∃ W,w.alloc (.cells (madeCells #[.bool false] n) 4)=W:=⟨_,rfl⟩
 have HB0:Hid (Below w.heap.size w W):=by rw [←hW];exact (Below.refl _ _).alloc (Nat.le_refl _) _
 have HG0:Hid (BolB W w.heap.size n (inF (ordTo (lR xs) 0))):=by rw [←hW];exact BolB.made w n
 clear hN hl hc hR hnn
 go_enter Tryz.func29,Tryz.ntmps29
 go_wp2_with fail
 clear hW hmk
 go_loopg [4] n (fun g s4 wr => ∃ (k:Nat) (AO:Option Addr) (cO:Nat),k≤n∧g=n-k∧s4=.slice AO k cO∧wr.ownsRow (w.heap.size+1) 3 1 (.slice AO k cO) k (mapI (ordTo (lR xs) k))∧BolB wr w.heap.size n (inF (ordTo (lR xs) k))∧Below w.heap.size w wr)
 case atStart=>exact ⟨0,none,0,Nat.zero_le _,rfl,rfl,World.ownsRow_nil _ _ _ _,HG0.out,HB0.out⟩
 case round =>
  obtain ⟨k,AO,cO,hk,rfl,rfl,hO,hG,hBw⟩:=hrel
  have HO:Hid (wr.ownsRow (w.heap.size+1) 3 1 (.slice AO k cO) k (mapI (ordTo (lR xs) k))):=hO
  have HG:Hid (BolB wr w.heap.size n (inF (ordTo (lR xs) k))):=hG
  have HBw:Hid (Below w.heap.size w wr):=hBw
  by_cases hlt:k<n
  ·have hki:(k:Int)<(n:Int):=by omega
   obtain ⟨m,hmn,hok,hno,hsn⟩:=HSn.out k hlt
   have HNo:Hid (∀ j,j<m→okN (lR xs) (ordTo (lR xs) k) j=false):=hno
   have HOk:Hid (okN (lR xs) (ordTo (lR xs) k) m=true):=hok
   have HSk:Hid (ordTo (lR xs) (k+1)=ordTo (lR xs) k ++ [(m:Int)]):=hsn
   obtain ⟨L,hL⟩:∃ L,ordTo (lR xs) k=L:=⟨_,rfl⟩
   rw [hL] at HNo HOk HSk HG HO
   clear hO hG hBw hok hno hsn hL
   go_wp2_with fail
   go_loopg [4,5] n (fun gg s4 s5 wi => ∃ (j:Nat),j≤m∧gg=n-j∧s4=.slice AO k cO∧s5=.int .i64 j∧wi=wr)
   case atStart=>exact ⟨0,Nat.zero_le _,rfl,rfl,rfl,rfl⟩
   case round =>
    obtain ⟨j,hj,rfl,rfl,rfl,hwi⟩:=hrel
    subst hwi
    have hjn:j<n:=by omega
    have hji:(j:Int)<(n:Int):=by omega
    obtain ⟨hcap,h0 | ⟨b,rfl,hbw,hcl⟩,hrw⟩:=HR.out.later HBw.out
    ·have:=HX.out;rw [h0] at this;simp at this;omega
    have cj:=hcl j (by rw [HX.out];exact hjn)
    have hrj:=hrw _ (rl_mem (k:=j) (by rw [HX.out];exact hjn))
    obtain ⟨hlj,hij⟩:=HLe.out j hjn
    rw [HX.out] at hcap
    have hcapI:(n:Int)≤(cap:Int):=by omega
    have HNj:Hid ((lR xs).getD j []=(xs.getD j noR).p):=lR_at xs j
    obtain ⟨R,hRe⟩:∃ R,(xs.getD j noR).p=R:=⟨_,rfl⟩
    rw [hRe] at cj hrj hlj hij HNj
    have HIj:Hid (∀ x∈R,0≤x∧x<(n:Int)):=hij
    generalize (xs.getD j noR).A=Aj at cj hrj
    generalize (xs.getD j noR).c=cjj at cj hrj
    have HTj:Hid (IntT wr Aj cjj R):=hrj
    obtain ⟨r,hr⟩:∃ r,R.length=r:=⟨_,rfl⟩
    have HRr:Hid (R.length=r):=hr
    rw [hr] at cj hlj
    have hrI:(r:Int)≤12:=by omega
    have cg:=HG.out.cell hjn
    have hgl:=HG.out.lt
    have HOk0:Hid (okUpTo L R j 0 = !inF L j):=by show _=_;unfold okUpTo inF;simp
    generalize inF L j=ij at cg HOk0
    clear hcl hrw hrj hRe hij hr
    go_wp2_with fail
    go_loopg [6,7] r (fun gg s6 s7 wi => ∃ (u:Nat) (ok:Bool),u≤r∧gg=r-u∧s6=.bool ok∧s7=.int .i64 u∧Hid (okUpTo L R j u=ok)∧wi=wr)
    case atStart=>exact ⟨0,_,Nat.zero_le _,rfl,rfl,rfl,HOk0,rfl⟩
    case round =>
     obtain ⟨u,ok,hu,rfl,rfl,rfl,HU,hwi⟩:=hrel
     subst hwi
     by_cases hul:u<r
     ·have hui:(u:Int)<(r:Int):=by omega
      cases ok
      ·have hjm:j<m:=by
        have h1:okN (lR xs) L j=false:=by rw [←okUpTo_end HNj.out (Or.inr HU.out)];exact HU.out
        rcases Nat.lt_or_ge j m with h | h
        ·exact h
        ·have e:j=m:=by omega
         have h2:=HOk.out
         rw [←e,h1] at h2
         cases h2
       go_wp2_with fail
       go_roundg (n-(j+1))
       case measure=>omega
       case rel=>exact ⟨j+1,by omega,rfl,rfl,by go_num,rfl⟩
      ·obtain ⟨hcR,-,hR0 | ⟨br,cs,fr,rfl,hbr,hcr⟩⟩:=HTj.out
       ·have:=HRr.out;rw [hR0] at this;simp at this;omega
       have cu:=hcr u (by rw [HRr.out];exact hul)
       rw [HRr.out] at hcR
       have hcRi:(r:Int)≤(cjj:Int):=by omega
       have hbrl:br<wr.heap.size:=(Array.getElem?_eq_some_iff.1 hbr).1
       obtain ⟨hz0',hz1'⟩:=HIj.out (R.getD u 0) (mem_at (by rw [HRr.out];exact hul))
       have HNx:Hid (okUpTo L R j (u+1)=L.contains (R.getD u 0)):=okUpTo_next HU.out (by rw [HRr.out];exact hul)
       obtain ⟨z,hz⟩:∃ z:Nat,R.getD u 0=(z:Int):=⟨(R.getD u 0).toNat,by omega⟩
       rw [hz] at cu hz1' HNx
       have hzn:z<n:=by omega
       have cz:=HG.out.cell hzn
       change wr.cell? ⟨w.heap.size,z,none⟩=some (.bool (L.contains (z:Int))) at cz
       generalize L.contains (z:Int)=zb at cz HNx
       clear hcr hbr hz hz0'
       go_wp2_with fail
       go_roundg (r-(u+1))
       case measure=>omega
       case rel=>exact ⟨u+1,zb,by omega,rfl,rfl,by go_num,HNx,rfl⟩
     ·have hue:u=r:=by omega
      subst hue
      cases ok
      ·have hjm:j<m:=by
        have h1:okN (lR xs) L j=false:=by rw [←okUpTo_end HNj.out (Or.inr HU.out)];exact HU.out
        rcases Nat.lt_or_ge j m with h | h
        ·exact h
        ·have e:j=m:=by omega
         have h2:=HOk.out
         rw [←e,h1] at h2
         cases h2
       go_wp2_with fail
       go_roundg (n-(j+1))
       case measure=>omega
       case rel=>exact ⟨j+1,by omega,rfl,rfl,by go_num,rfl⟩
      ·have h1:okN (lR xs) L j=true:=by rw [←okUpTo_end HNj.out (Or.inl HRr.out.symm)];exact HU.out
       have hjm:j=m:=by
        rcases Nat.lt_or_ge j m with h | h
        ·rw [HNo.out j h] at h1;cases h1
        ·omega
       subst hjm
       have hfz:=HG.out.frozen j
       have HG5:Hid (BolB (wr.setCell ⟨w.heap.size,j,none⟩ (.bool true)) w.heap.size n (inF (ordTo (lR xs) (k+1)))):=by rw [HSk.out];exact HG.out.set fun i _=>inF_next i
       have HO5:Hid ((wr.setCell ⟨w.heap.size,j,none⟩ (.bool true)).ownsRow (w.heap.size+1) 3 1 (.slice AO k cO) k (mapI L)):=own_set HO.out (by omega)
       have HB5:Hid (Below w.heap.size w (wr.setCell ⟨w.heap.size,j,none⟩ (.bool true))):=below_set HBw.out (Nat.le_refl _)
       obtain ⟨w5,hw5⟩:∃ w5,wr.setCell ⟨w.heap.size,j,none⟩ (.bool true)=w5:=⟨_,rfl⟩
       rw [hw5] at HG5 HO5 HB5
       have hsz:w.heap.size+1≤w5.heap.size:=by have:=HG5.out.lt;omega
       clear h1
       go_wp2_with (at_builtin;refine wpList_append_own _ rfl _ _ 27 rfl (w.heap.size+1) 3 i0 (.int .i64 0) 1 8 Tryz.underlying27 hi0 hz0 hz1 hz2 rfl (by decide) _ _ _ rfl (HO5.out.alloc _) ⟨w5.heap.size,0,none⟩ 1 1 [.int .i64 j] rfl rfl one_cell one_one (by unfold maxLen;omega) (by omega) (by simp;omega) ?_)
       intro v' w6 hown' hgrow _
       obtain ⟨A6,c6,hv⟩:=own_form hown'
       subst hv
       have HO6:Hid (w6.ownsRow (w.heap.size+1) 3 1 (.slice A6 (k+1) c6) (k+1) (mapI (ordTo (lR xs) (k+1)))):=by
        show World.ownsRow ..
        rw [HSk.out,mapI_snoc]
        exact hown'
       have hne:some w.heap.size≠(Value.slice AO k cO).ownBlock:=fun e=>by have:=(HO5.out.lt _ e.symm).1;omega
       have HG6:Hid (BolB w6 w.heap.size n (inF (ordTo (lR xs) (k+1)))):=by
        show BolB ..
        unfold BolB
        rw [hgrow.block w.heap.size (by simp;omega) hne,Below.heap_alloc _ _ _ (by omega)]
        exact HG5.out
       have HB6:Hid (Below w.heap.size w w6):=(HB5.out.alloc (by omega) _).grown hgrow (by simp;omega) (fun i hi=>by have:=(HO5.out.lt i hi).1;omega)
       clear hown' hgrow hne
       go_wp2_with fail
       go_roundg (n-(k+1))
       case measure=>omega
       case rel=>exact ⟨k+1,A6,c6,by omega,rfl,rfl,HO6.out,HG6.out,HB6.out⟩
  ·have hke:k=n:=by omega
   subst hke
   have HLn:Hid ((ordTo (lR xs) k).length=k):=HOl.out k (Nat.le_refl _)
   have HI:Hid (IntsAt wr AO cO (ordTo (lR xs) k)):=by
    have h:=hO
    have e:=HLn.out
    have h':wr.ownsRow (w.heap.size+1) 3 1 (.slice AO (ordTo (lR xs) k).length cO) (ordTo (lR xs) k).length (mapI (ordTo (lR xs) k)):=by rw [e];exact h
    obtain ⟨A',c',e',hI⟩:=intT_own h'
    cases e'
    exact hI.at
   clear hO hG hBw
   go_wp2_with fail
   go_ret
   exact ⟨⟨AO,cO,by rw [HLn.out];rfl,HI.out⟩,HBw.out⟩
set_option maxHeartbeats 4000000 in
theorem samecells_any (A B:Option Addr) (ca cb:Nat) (L:List (Int×Int)) (w:World) (hn:L.length≤3000) (hA:CelV w A ca L) (hB:CelV w B cb L):Calls Tryz.prog 26 #[.slice A L.length ca,.slice B L.length cb] w fun e w'=>e=.returned (.bool true)∧Below w.heap.size w w':=by
 have HA:Hid (CelV w A ca L):=hA
 have HB:Hid (CelV w B cb L):=hB
 obtain ⟨N,hN⟩:∃ N,L.length=N:=⟨_,rfl⟩
 have HN:Hid (L.length=N):=hN
 rw [hN] at hn ⊢
 have hn':(N:Int)≤3000:=by omega
 have hne:((N:Int) != (N:Int))=false:=by simp
 clear hA hB hN
 go_enter Tryz.func26,Tryz.ntmps26
 go_wp2_with fail
 go_loopg [5] N (fun g s5 wr => ∃ (k:Nat),k≤N∧g=N-k∧s5=.int .i64 k∧Below w.heap.size w wr)
 case atStart=>exact ⟨0,Nat.zero_le _,rfl,rfl,Below.refl _ _⟩
 case round =>
  obtain ⟨k,hk,rfl,rfl,hBw⟩:=hrel
  have HW:Hid (Below w.heap.size w wr):=hBw
  by_cases hlt:k<N
  ·have hki:(k:Int)<(N:Int):=by omega
   have hkL:k<L.length:=by rw [HN.out];exact hlt
   obtain ⟨hca,-,h0 | ⟨b1,o1,rfl,hA⟩⟩:=HA.out.later hBw
   ·rw [h0] at hkL;simp at hkL
   obtain ⟨hcb,-,h0 | ⟨b2,o2,rfl,hB⟩⟩:=HB.out.later hBw
   ·rw [h0] at hkL;simp at hkL
   obtain ⟨a1,a2⟩:=hA.2 k hkL
   obtain ⟨b1',b2'⟩:=hB.2 k hkL
   rw [HN.out] at hca hcb
   generalize (L.getD k noC).1=x at a1 b1'
   generalize (L.getD k noC).2=y at a2 b2'
   clear hA hB hBw
   go_wp2_with fail
   first | (go_quiet (fail);go_wp2_with fail) | skip
   go_roundg (N-(k+1))
   case measure=>omega
   case rel=>first | exact ⟨k+1,by omega,rfl,by go_num,HW.out⟩ | exact ⟨k+1,by omega,rfl,by go_num,below_drewN HW.out _⟩
  ·have hke:k=N:=by omega
   subst hke
   clear hBw
   go_wp2_with fail
   go_ret
   exact ⟨rfl,HW.out⟩
set_option maxHeartbeats 1000000 in
theorem sameints_big (A B:Option Addr) (ca cb:Nat) (L:List Int) (w:World) (hn:L.length≤3000) (hA:IntsAt w A ca L) (hB:IntsAt w B cb L):Calls Tryz.prog 32 #[.slice A L.length ca,.slice B L.length cb] w fun e w'=>e=.returned (.bool true)∧Below w.heap.size w w':=by
 obtain ⟨hc,h0 | ⟨b,rfl,hbw,hcell⟩⟩:=hA
 ·subst h0
  simp only [List.length_nil]
  go_enter Tryz.func32,Tryz.ntmps32
  go_wp2_with fail
  refine wp_loop_rounds 1 ?_
  rw [rounds_succ]
  go_wp2_with fail
  go_ret
  exact ⟨rfl,Below.refl _ _⟩
 ·obtain ⟨hc',h0 | ⟨b',rfl,hbw',hcell'⟩⟩:=hB
  ·subst h0
   simp only [List.length_nil]
   go_enter Tryz.func32,Tryz.ntmps32
   go_wp2_with fail
   refine wp_loop_rounds 1 ?_
   rw [rounds_succ]
   go_wp2_with fail
   go_ret
   exact ⟨rfl,Below.refl _ _⟩
  ·have HC:Hid (∀ j,j<L.length→w.cell? ⟨b,j,none⟩=some (.int .i64 (L.getD j 0))):=hcell
   have HC':Hid (∀ j,j<L.length→w.cell? ⟨b',j,none⟩=some (.int .i64 (L.getD j 0))):=hcell'
   generalize hnn:L.length=n at hn hc hc' HC HC'
   clear hcell hcell' hnn
   have hn':(n:Int)≤3000:=by omega
   go_enter Tryz.func32,Tryz.ntmps32
   go_wp2_with fail
   go_loopg [5] n (fun g s5 wr => ∃ (k:Nat),k≤n∧g=n-k∧s5=.int .i64 k∧Below w.heap.size w wr)
   case atStart=>exact ⟨0,Nat.zero_le _,rfl,rfl,Below.refl _ _⟩
   case round =>
    obtain ⟨k,hk,rfl,rfl,hBw⟩:=hrel
    have HBw:Hid (Below w.heap.size w wr):=hBw
    by_cases hlt:k<n
    ·have hki:(k:Int)<(n:Int):=by omega
     have x1:=(hBw.cell (p:=⟨b,k,none⟩) hbw).trans (HC.out k hlt)
     have x2:=(hBw.cell (p:=⟨b',k,none⟩) hbw').trans (HC'.out k hlt)
     generalize L.getD k 0=x at x1 x2
     clear hBw
     go_wp2_with fail
     go_quiet (fail)
     go_wp2_with fail
     go_roundg (n-(k+1))
     case measure=>omega
     case rel=>exact ⟨k+1,by omega,rfl,by go_num,onB HBw.out (below_drewN (Below.refl _ _) _)⟩
    ·have hke:k=n:=by omega
     subst hke
     clear hBw
     go_wp2_with fail
     go_ret
     exact ⟨rfl,HBw.out⟩
end Go.Proofs.YtaodedckffjpgafGreatDoor
namespace Go.Proofs.YtaodedckffjpgafGreatDoor
open Go Go.ChangeShapes Go.WideShapes Go.ChangeAt Go.RowKit
set_option maxRecDepth 20000
def HeadV (w:World) (A:Option Addr) (c:Nat) (L:List Int):Prop:=(A=none∧c=0∧L=[])∨(L≠[]∧PlTy w A c L)
theorem HeadV.pl {w:World} {A:Option Addr} {c:Nat} {L:List Int} (h:HeadV w A c L):PlAt w A c L:=by
 rcases h with ⟨rfl,rfl,rfl⟩ | ⟨-,h⟩
 ·exact PlAt.nil _ _ _
 ·exact h.pl
theorem HeadV.later {w w':World} {A:Option Addr} {c:Nat} {L:List Int} (h:HeadV w A c L) (hB:Below w.heap.size w w'):HeadV w' A c L:=by
 rcases h with h | ⟨h1,h⟩
 ·exact Or.inl h
 ·exact Or.inr ⟨h1,h.later hB⟩
end Go.Proofs.YtaodedckffjpgafGreatDoor
namespace Go.Proofs.YtaodedckffjpgafGreatDoor
open Go.ChangeShapes Go.WideShapes Go.ChangeAt Go.RowKit
set_option maxRecDepth 20000
theorem samepl_end {a b:List Int} (hl:a.length=b.length) {k:Nat} (hk:a.length≤k) (h:∀ j,j<k→a.getD j 0=b.getD j 0):a=b:=by
 apply List.ext_getElem hl
 intro i h1 h2
 have:=h i (by omega)
 simpa [List.getD,h1,h2] using this
set_option maxHeartbeats 1000000 in
theorem samepl_any (A B:Option Addr) (ca cb:Nat) (a b:List Int) (w:World) (hn:a.length≤4) (hA:PlAt w A ca a) (hB:PlAt w B cb b):Calls Tryz.prog 52 #[.slice A a.length ca,.slice B b.length cb] w fun e w'=>e=.returned (.bool (decide (a=b)))∧Below w.heap.size w w':=by
 by_cases hl:a.length=b.length
 ·obtain ⟨hc,h0 | ⟨g,o,rfl,hbw,hcell⟩⟩:=hA
  ·subst h0
   have h1:b=[]:=List.eq_nil_of_length_eq_zero hl.symm
   subst h1
   simp only [List.length_nil]
   go_enter Tryz.func52,Tryz.ntmps52
   go_wp2_with fail
   refine wp_loop_rounds 1 ?_
   rw [rounds_succ]
   go_wp2_with fail
   go_ret
   exact ⟨rfl,Below.refl _ _⟩
  ·obtain ⟨hc',h0 | ⟨g',o',rfl,hbw',hcell'⟩⟩:=hB
   ·subst h0
    have h1:a=[]:=List.eq_nil_of_length_eq_zero hl
    subst h1
    simp only [List.length_nil]
    go_enter Tryz.func52,Tryz.ntmps52
    go_wp2_with fail
    refine wp_loop_rounds 1 ?_
    rw [rounds_succ]
    go_wp2_with fail
    go_ret
    exact ⟨rfl,Below.refl _ _⟩
   ·have HC:Hid (∀ j,j<a.length→w.cell? ⟨g,o+j,none⟩=some (.int .i64 (a.getD j 0))):=hcell
    have HC':Hid (∀ j,j<a.length→w.cell? ⟨g',o'+j,none⟩=some (.int .i64 (b.getD j 0))):=fun j hj=>hcell' j (by omega)
    have HE:Hid (∀ k,a.length≤k→(∀ j,j<k→a.getD j 0=b.getD j 0)→decide (a=b)=true):=fun k hk h=>decide_eq_true (samepl_end hl hk h)
    have HN:Hid (∀ k,a.getD k 0≠b.getD k 0→decide (a=b)=false):=fun k h=>decide_eq_false fun e=>h (by rw [e])
    rw [←hl]
    rw [←hl] at hc'
    generalize hnn:a.length=n at hn hc hc' HC HC' HE
    generalize decide (a=b)=res at HE HN
    clear hcell hcell' hnn hl
    have hn':(n:Int)≤4:=by omega
    go_enter Tryz.func52,Tryz.ntmps52
    go_wp2_with fail
    go_loopg [5] n (fun gg s5 wr => ∃ (k:Nat),k≤n∧gg=n-k∧s5=.int .i64 k∧(∀ j,j<k→a.getD j 0=b.getD j 0)∧Below w.heap.size w wr)
    case atStart=>exact ⟨0,Nat.zero_le _,rfl,rfl,fun j hj=>absurd hj (Nat.not_lt_zero _),Below.refl _ _⟩
    case round =>
     obtain ⟨k,hk,rfl,rfl,hsame,hBw⟩:=hrel
     have HBw:Hid (Below w.heap.size w wr):=hBw
     have HS:Hid (∀ j,j<k→a.getD j 0=b.getD j 0):=hsame
     clear hsame
     by_cases hlt:k<n
     ·have hki:(k:Int)<(n:Int):=by omega
      have x1:=(hBw.cell (p:=⟨g,o+k,none⟩) hbw).trans (HC.out k hlt)
      have x2:=(hBw.cell (p:=⟨g',o'+k,none⟩) hbw').trans (HC'.out k hlt)
      by_cases hxy:a.getD k 0=b.getD k 0
      ·have HXY:Hid (a.getD k 0=b.getD k 0):=hxy
       rw [←hxy] at x2
       generalize a.getD k 0=x at x1 x2
       clear hBw hxy
       go_wp2_with fail
       go_quiet (fail)
       go_wp2_with fail
       go_roundg (n-(k+1))
       case measure=>omega
       case rel =>
        refine ⟨k+1,by omega,rfl,by go_num,fun j hj=>?_,below_drewN HBw.out _⟩
        rcases Nat.lt_succ_iff_lt_or_eq.1 hj with h1 | rfl
        ·exact HS.out j h1
        ·exact HXY.out
      ·have HR:Hid (res=false):=HN.out k hxy
       generalize a.getD k 0=x at x1 hxy
       generalize b.getD k 0=y at x2 hxy
       clear hBw
       go_wp2_with fail
       go_quiet (fail)
       go_wp2_with fail
       go_ret
       rw [HR.out]
       exact ⟨rfl,below_drewN HBw.out _⟩
     ·have hke:k=n:=by omega
      subst hke
      have HR:Hid (res=true):=HE.out k (Nat.le_refl _) HS.out
      go_wp2_with fail
      go_ret
      rw [HR.out]
      exact ⟨rfl,hBw⟩
 ·have hr:decide (a=b)=false:=decide_eq_false fun e=>hl (by rw [e])
  rw [hr]
  have hl' : ¬ ((a.length:Int)=(b.length:Int)):=by omega
  clear hA hB hr
  generalize a.length=n at hl hl' hn
  generalize b.length=m at hl hl'
  go_enter Tryz.func52,Tryz.ntmps52
  go_wp2_with fail
  go_ret
  exact ⟨rfl,Below.refl _ _⟩
end Go.Proofs.YtaodedckffjpgafGreatDoor
