/-
  What Parse of package sheet answers, of every text, in whatever memory: the cube that it tells, or which line is wrong, and how.
-/
import Derived.Shelf.Spec.SlicesInsertGrow
import Derived.Test.YtinebmjpdkjooaaGreatDoorJZBK
import Derived.Test.YtinebmjpdkjooaaGreatDoorJZBL
namespace Go.Proofs.YtinebmjpdkjooaaGreatDoor
open Go Go.ChangeShapes Go.WideShapes Go.ChangeAt Go.RowKit
set_option maxRecDepth 20000
def psS (t:ByteArray):RdQ:=rdTo (piecesC 10 t) ((piecesC 10 t).length-1)
def psD (t:ByteArray):Nat→Dm:=dmL (psS t).dims
def psN (t:ByteArray):Nat:=(psS t).dims.length
def psL (t:ByteArray):List En:=esL (psD t) (psN t) (psS t)
noncomputable def psE2 (t:ByteArray):Int:=if (ruErr (psD t) (psN t)).2.2≠0 then (ruErr (psD t) (psN t)).2.2 else if 0≤ebad (psD t) (psN t) (psS t) then parseErr (psD t) (psN t) ((psS t).pl.getD (ebad (psD t) (psN t) (psS t)).toNat noWd) else entsErr (psD t) (psN t) (psL t)
noncomputable def psK2 (t:ByteArray):Nat:=if (ruErr (psD t) (psN t)).2.2≠0 then 0 else if 0≤ebad (psD t) (psN t) (psS t) then (psS t).first+(ebad (psD t) (psN t) (psS t)).toNat else 0
noncomputable def psE (t:ByteArray):Int:=match rdBad (piecesC 10 t) with
 | some _=>2
 | none=>psE2 t
noncomputable def psK (t:ByteArray):Nat:=match rdBad (piecesC 10 t) with
 | some k=>k
 | none=>psK2 t
def PsA (t:ByteArray) (w:World) (e:Ending) (w':World):Prop :=
 (psE t≠0→e=.returned (.tuple #[.agg #[.slice none 0 0],.slice none 0 0,.int .i64 (psK t),.iface 65 (.int .i64 (psE t))])) ∧
 (psE t=0→∃ A0 cap A C xs AE ce,e=.returned (.tuple #[.agg #[.slice A0 (psN t) cap],.slice AE xs.length ce,.int .i64 0,.nilIface])∧DimsV w' A0 cap (psN t) (psD t) A C∧EnsV w' AE ce xs∧lE xs=psL t)∧Below w.heap.size w w'
theorem rdTo_sizes (L:List ByteArray) (N:Nat) (hL:∀ s∈L,s.size≤N):∀ k,∀ p∈(rdTo L k).pl,p.size≤N
 | 0,p,hp=>by simp [rdTo,rd0S] at hp
 | k+1,p,hp=>by
  have ih:=rdTo_sizes L N hL k
  have hl:(L.getD k noWd).size≤N:=by
   by_cases hk:k<L.length
   ·rw [List.getD_eq_getElem?_getD,List.getElem?_eq_getElem hk];exact hL _ (List.getElem_mem hk)
   ·rw [List.getD_eq_getElem?_getD,List.getElem?_eq_none (by omega)];exact Nat.zero_le _
  rw [rdTo_succ] at hp
  unfold rdLine at hp
  split at hp
  ·exact ih p hp
  ·split at hp
   ·exact ih p hp
   ·split at hp
    ·rcases List.mem_append.1 hp with hp | hp
     ·exact ih p hp
     ·rw [List.mem_singleton] at hp
      subst hp
      exact Nat.le_trans (wdB_size 32 _ 1) hl
    ·exact ih p hp
theorem pcs_sizes (c:UInt8) (t:ByteArray):∀ s∈piecesC c t,s.size≤t.size:=fun s hs=>by
 unfold piecesC at hs
 obtain ⟨l,hl,rfl⟩:=List.mem_map.1 hs
 have:=cut_sizes c _ l hl
 rw [Lib.size_eq t]
 exact this
theorem psS_bounds (t:ByteArray):(psS t).pl.length≤t.size∧(psS t).dims.length≤t.size∧∀ p∈(psS t).pl,p.size≤t.size:=by
 have h1:=rdTo_dims (piecesC 10 t) ((piecesC 10 t).length-1)
 have h2:=piecesC_le 10 t
 refine ⟨?_,?_,rdTo_sizes _ _ (pcs_sizes 10 t) _⟩
 ·show (rdTo _ _).pl.length≤_;omega
 ·show (rdTo _ _).dims.length≤_;omega
theorem findFrom_two (p:Nat→Bool):∀ n k,findFrom p n k = -1∨(0≤findFrom p n k∧p (findFrom p n k).toNat=true)
 | 0,_=>Or.inl rfl
 | n+1,k=>by
  cases h:p k with
  | true=>rw [findFrom_hit _ h];exact Or.inr ⟨by omega,by simpa using h⟩
  | false=>rw [findFrom_miss _ h];exact findFrom_two p n (k+1)
theorem box1_set {w:World} {q T:Nat} {a v:Value} (h:w.heap[q]?=some (.cells #[a] T (0,0))):(w.setCell ⟨q,0,none⟩ v).heap[q]?=some (.cells #[v] T (0,0)):=by simp [World.setCell,Array.getElem?_modify,h]
set_option maxHeartbeats 16000000 in
theorem sparse_bad (t:ByteArray) (k:Nat) (w:World) (hE:EnvS w) (ht:t.size≤1048576) (hb:rdBad (piecesC 10 t)=some k):Calls Tryz.prog 9 #[.string t] w fun e w'=>e=.returned (.tuple #[.agg #[.slice none 0 0],.slice none 0 0,.int .i64 k,.iface 65 (.int .i64 2)])∧Below w.heap.size w w':=by
 obtain ⟨W,hW⟩:∃ W,w.alloc (.cells #[.slice none 0 0] 24)=W:=⟨_,rfl⟩
 have hBW:Below w.heap.size w W:=by rw [←hW];exact (Below.refl _ _).alloc (Nat.le_refl _) _
 have hc:W.heap[w.heap.size]?=some (.cells #[.slice none 0 0] 24 (0,0)):=by rw [←hW];exact heap_alloc_new ..
 have hs:w.heap.size<W.heap.size:=(Array.getElem?_eq_some_iff.1 hc).1
 have h1:Calls Tryz.prog 31 #[.string t] W fun e w'=>e=.returned (.tuple #[.agg #[.slice none 0 0,.slice none 0 0],.int .i64 k,.iface 65 (.int .i64 2)])∧Below W.heap.size W w':=(sread_any t W (hE.later hBW) ht).mono fun e w' ⟨h1,_,h3⟩=>⟨h1 k hb,h3⟩
 have HC:=hid_of hc
 have HBW:=hid_of hBW
 clear hE ht hb hc hBW
 go_enter Tryz.func9,Tryz.ntmps9
 go_wp2_with fail
 refine h1.mono ?_
 rintro e w1 ⟨rfl,hb1⟩
 have hc1:=(hb1.block w.heap.size hs).trans HC.out
 have c0:w1.cell? ⟨w.heap.size,0,none⟩=some (.slice none 0 0):=(Lib.cell_of_heap hc1 0).trans rfl
 have f0:w1.frozen? ⟨w.heap.size,0,none⟩=false:=Lib.frozen_of_heap hc1 0
 have hs1:w.heap.size<w1.heap.size:=Nat.lt_of_lt_of_le hs hb1.size
 have HB1:=hid_of (HBW.out.trans (hb1.mono (by omega)))
 clear hb1 h1
 go_wp2_with fail
 have p0:=(Lib.cell_of_heap (eachO (o:=Obj.cells #[.slice none 0 0,.slice none 0 0] 76) (box1_set (v:=Value.slice none 0 0) hc1)) 0).trans (b:=some (Value.slice none 0 0)) rfl
 refine bodyPost_ret (v:=.tuple #[.agg #[.slice none 0 0],.slice none 0 0,.int .i64 k,.iface 65 (.int .i64 2)]) (by simp [results,Tryz.results9,go_sem,p0]) rfl ⟨rfl,?_⟩
 exact (HB1.out.setCell (Nat.le_refl _) _).alloc (by simp [World.setCell];omega) _
set_option maxHeartbeats 16000000 in
theorem sparse_good (t:ByteArray) (w:World) (hE:EnvS w) (ht:t.size≤1048576) (hb:rdBad (piecesC 10 t)=none):Calls Tryz.prog 9 #[.string t] w fun e w'=>PsA t w e w':=by
 have HPe:Hid (psE t=psE2 t):=by show _=_;unfold psE;rw [hb]
 have HPk:Hid (psK t=psK2 t):=by show _=_;unfold psK;rw [hb]
 have HBo:=hid_of (psS_bounds t)
 obtain ⟨W,hW⟩:∃ W,w.alloc (.cells #[.slice none 0 0] 24)=W:=⟨_,rfl⟩
 have hBW:Below w.heap.size w W:=by rw [←hW];exact (Below.refl _ _).alloc (Nat.le_refl _) _
 have hc:W.heap[w.heap.size]?=some (.cells #[.slice none 0 0] 24 (0,0)):=by rw [←hW];exact heap_alloc_new ..
 have hs:w.heap.size<W.heap.size:=(Array.getElem?_eq_some_iff.1 hc).1
 have h1:Calls Tryz.prog 31 #[.string t] W fun e w'=>(∃ q A C vd vc,e=.returned (.tuple #[.agg #[vd,vc],.int .i64 0,.nilIface])∧W.heap.size≤q∧DrV q (psS t) A C vd vc w')∧Below W.heap.size W w':=(sread_any t W (hE.later hBW) ht).mono fun e w' ⟨_,h2,h3⟩=>⟨h2 hb,h3⟩
 have HC:=hid_of hc
 have HBW:=hid_of hBW
 have HEW:=hid_of (hE.later hBW)
 clear hE hb hc hBW
 go_enter Tryz.func9,Tryz.ntmps9
 go_wp2_with fail
 refine h1.mono ?_
 rintro e w1 ⟨⟨q,A,C,vd,vc,rfl,hq,hV⟩,hb1⟩
 have hc1:=(hb1.block w.heap.size hs).trans HC.out
 have hs1:w.heap.size<w1.heap.size:=Nat.lt_of_lt_of_le hs hb1.size
 obtain ⟨A0,cap,hvd,hDm⟩:=hV.dm.toV
 obtain ⟨Ac,cc,hvc⟩:=own_formK hV.cells
 subst hvd hvc
 have e1:dmL (psS t).dims=psD t:=rfl
 have e2:(psS t).dims.length=psN t:=rfl
 have HCe:=hid_of hV.cells
 rw [e1,e2] at hDm
 rw [e2]
 obtain ⟨n,hn⟩:∃ n,psN t=n:=⟨_,rfl⟩
 obtain ⟨pl,hpl⟩:∃ pl,(psS t).pl.length=pl:=⟨_,rfl⟩
 have HN:=hid_of hn
 have HPl:=hid_of hpl
 rw [hn] at hDm ⊢
 rw [hpl]
 obtain ⟨Y1,hY1⟩:∃ Y1,w1.alloc (.cells #[.slice A0 n cap,.slice Ac pl cc] 76)=Y1:=⟨_,rfl⟩
 have hb2:Below w1.heap.size w1 Y1:=by rw [←hY1];exact (Below.refl _ _).alloc (Nat.le_refl _) _
 have hc2:Y1.heap[w1.heap.size]?=some (.cells #[.slice A0 n cap,.slice Ac pl cc] 76 (0,0)):=by rw [←hY1];exact heap_alloc_new ..
 have hs2:w1.heap.size<Y1.heap.size:=(Array.getElem?_eq_some_iff.1 hc2).1
 obtain ⟨Y2,hY2⟩:∃ Y2,Y1.alloc (.cells #[.slice A0 n cap] 24)=Y2:=⟨_,rfl⟩
 have hb3:Below Y1.heap.size Y1 Y2:=by rw [←hY2];exact (Below.refl _ _).alloc (Nat.le_refl _) _
 have hc3:Y2.heap[Y1.heap.size]?=some (.cells #[.slice A0 n cap] 24 (0,0)):=by rw [←hY2];exact heap_alloc_new ..
 have hs3:Y1.heap.size<Y2.heap.size:=(Array.getElem?_eq_some_iff.1 hc3).1
 have HB2:=hid_of (onB hb2 hb3)
 have k1:w1.cell? ⟨w1.heap.size,0,none⟩=none:=by simp [World.cell?]
 have d0:Y1.cell? ⟨w1.heap.size,0,none⟩=some (.slice A0 n cap):=(Lib.cell_of_heap hc2 0).trans rfl
 have o0:Y2.cell? ⟨Y1.heap.size,0,none⟩=some (.slice A0 n cap):=(Lib.cell_of_heap hc3 0).trans rfl
 have HDm:=hid_of hDm
 have HF:Hid (∀ w',Below Y2.heap.size Y2 w'→w'.heap[w.heap.size]?=some (.cells #[.slice none 0 0] 24 (0,0))∧w'.cell? ⟨w1.heap.size,1,none⟩=some (.slice Ac pl cc)∧w'.cell? ⟨Y1.heap.size,0,none⟩=some (.slice A0 n cap)∧w.heap.size<w'.heap.size):=fun w' hb=>⟨(hb.block _ (by omega)).trans ((hb3.block _ (by omega)).trans ((hb2.block _ hs1).trans hc1)),(hb.cell (p:=⟨w1.heap.size,1,none⟩) (by show w1.heap.size<_;omega)).trans ((hb3.cell (p:=⟨w1.heap.size,1,none⟩) (by show w1.heap.size<_;omega)).trans ((Lib.cell_of_heap hc2 1).trans rfl)),(hb.cell (p:=⟨Y1.heap.size,0,none⟩) hs3).trans o0,Nat.lt_of_lt_of_le (by omega) hb.size⟩
 have HBY:Hid (Below w.heap.size w Y2):=HBW.out.trans ((hb1.mono (by omega)).trans (HB2.out.mono (by omega)))
 have HVd:=hid_of hV.dm
 have hqH:w.heap.size<q:=by omega
 rw [e2,HN.out] at HVd
 have hru:=rulall_any A0 cap n (psD t) A C Y2 (hDm.later HB2.out)
 obtain ⟨f1,f2,hf⟩:∃ f1 f2,(ruErr (psD t) n).1=f1∧(ruErr (psD t) n).2.1=f2:=⟨_,_,rfl,rfl⟩
 rw [hf.1,hf.2] at hru
 clear hb1 h1 hV hDm hn hpl e1 e2 hq k1 hf hb2 hb3 hc1 hc2 hc3
 by_cases hr:(ruErr (psD t) n).2.2=0
 ·have HR:Hid ((ruErr (psD t) (psN t)).2.2=0):=by show _=_;rw [HN.out];exact hr
  rw [hr,errV_zero] at hru
  have HEn:Hid (∀ w',Below Y2.heap.size Y2 w'→Calls Tryz.prog 32 #[.agg #[.slice A0 n cap],.slice Ac pl cc] w' fun e w''=>EnA (psD t) n (psS t) w' e w''):=fun w' hb=>by
   have h1:=own_later HCe.out (onB HB2.out hb)
   have h2:=sentries_any A0 cap n (psD t) A C (psS t) (q+1) _ w' (HDm.out.later (onB HB2.out hb)) h1 (fun s hs=>Nat.le_trans (HBo.out.2.2 s hs) ht) (Nat.le_trans HBo.out.1 ht)
   rw [HPl.out] at h2
   exact h2
  clear hr
  go_wp2_with fail
  refine hru.mono ?_
  rintro e w3 ⟨rfl,hb3⟩
  obtain ⟨x0,x1,x2,x3⟩:=HF.out w3 hb3
  have HB3:=hid_of hb3
  have h2:=HEn.out w3 hb3
  clear hru hb3
  by_cases hbd:ebad (psD t) n (psS t) = -1
  ·have HBd:Hid (ebad (psD t) (psN t) (psS t) = -1):=by show _=_;rw [HN.out];exact hbd
   have h3:Calls Tryz.prog 32 #[.agg #[.slice A0 n cap],.slice Ac pl cc] w3 fun e w''=>(∃ xs A c,e=.returned (.tuple #[.slice A xs.length c,.int .i64 0,.nilIface])∧lE xs=esL (psD t) n (psS t)∧w''.ownsRow w3.heap.size 51 2 (.slice A xs.length c) xs.length (cellsE xs)∧∀ x∈xs,PlTy w'' x.A x.c x.e.pl)∧Below w3.heap.size w3 w'':=h2.mono fun e w'' ⟨_,h4,h5⟩=>⟨h4 hbd,h5⟩
   clear h2 hbd HEn
   go_wp2_with fail
   refine h3.mono ?_
   rintro e w4 ⟨⟨xs,AE,ce,rfl,hxe,hxo,hxp⟩,hb4⟩
   have HB4:=hid_of (onB HB3.out hb4)
   obtain ⟨y0,y1,y2,y3⟩:=HF.out w4 HB4.out
   obtain ⟨A9,c9,hv9,hE9⟩:=ens_row hxo hxp
   have hE9':EnsV w4 AE ce xs:=by cases hv9;exact hE9
   have hck:=icheck_any A0 cap n (psD t) A C AE ce xs w4 (HDm.out.later (onB HB2.out HB4.out)) hE9'
   rw [hxe] at hck
   have HXe:Hid (lE xs=psL t):=by show _=_;unfold psL;rw [HN.out];exact hxe
   have HXo:=hid_of hxo
   have HXp:=hid_of hxp
   obtain ⟨L,hL⟩:∃ L,xs.length=L:=⟨_,rfl⟩
   have HL:=hid_of hL
   rw [hL] at hck ⊢
   obtain ⟨ee,hee⟩:∃ ee,entsErr (psD t) n (esL (psD t) n (psS t))=ee:=⟨_,rfl⟩
   rw [hee] at hck
   have HPE:Hid (psE t=ee):=by
    show _=_
    rw [HPe.out]
    unfold psE2 psL
    rw [if_neg (by simpa using HR.out),HBd.out,if_neg (by decide),HN.out]
    exact hee
   have HPK:Hid (psK t=0):=by
    show _=_
    rw [HPk.out]
    unfold psK2
    rw [if_neg (by simpa using HR.out),HBd.out,if_neg (by decide)]
   clear hxe hxo hxp hv9 hE9 hE9' hL hee hb4 h3 x0 x1 x2 x3
   by_cases he0:ee=0
   ·have HE0:=hid_of he0
    rw [he0,errV_zero] at hck
    clear he0
    go_wp2_with fail
    refine hck.mono ?_
    rintro e w5 ⟨rfl,hb5⟩
    have HB5:=hid_of (onB HB4.out hb5)
    obtain ⟨z0,z1,z2,z3⟩:=HF.out w5 HB5.out
    have HXo5:=hid_of (own_later HXo.out hb5)
    have HXp5:Hid (∀ x∈xs,PlTy w5 x.A x.c x.e.pl):=fun x hx=>(HXp.out x hx).later hb5
    have c0:w5.cell? ⟨w.heap.size,0,none⟩=some (.slice none 0 0):=(Lib.cell_of_heap z0 0).trans rfl
    have g0:w5.frozen? ⟨w.heap.size,0,none⟩=false:=Lib.frozen_of_heap z0 0
    clear hb5 hck y0 y1 y2 y3
    go_wp2_with fail
    have p0:=(Lib.cell_of_heap (box1_set (v:=Value.slice A0 n cap) z0) 0).trans (b:=some (Value.slice A0 n cap)) rfl
    refine bodyPost_ret (v:=.tuple #[.agg #[.slice A0 n cap],.slice AE L ce,.int .i64 0,.nilIface]) (by simp [results,Tryz.results9,go_sem,p0]) rfl ?_
    have hD9:DmV (w5.setCell ⟨w.heap.size,0,none⟩ (.slice A0 n cap)) (q+1) (.slice A0 n cap) A C (psS t).dims:=(HVd.out.later (onB HB2.out HB5.out)).keep fun b _ _ _ hB _ _=>setCell_off _ _ _ _ _ (by omega)
    obtain ⟨A0',cap',hv',hDv⟩:=hD9.toV
    obtain ⟨AE',ce',hw',hEv⟩:=ens_row (own_setc HXo5.out (own_ne HXo5.out z0 (by decide))) fun x hx=>plty_set (j:=0) (v:=.slice A0 n cap) (HXp5.out x hx) z0 (by decide)
    injection hv' with q1 q2 q3
    injection hw' with q4 q5 q6
    subst q1 q3 q4 q6
    refine ⟨fun h=>absurd (HPE.out.trans HE0.out) h,fun _=>⟨A0,cap,A,C,xs,AE,ce,by rw [HN.out,HL.out],hDv,hEv,HXe.out⟩,(HBY.out.trans (HB5.out.mono (by omega))).setCell (Nat.le_refl _) _⟩
   ·rw [errV_some he0] at hck
    have HE0:=hid_of he0
    clear he0
    go_wp2_with fail
    refine hck.mono ?_
    rintro e w5 ⟨rfl,hb5⟩
    have HB5:=hid_of (onB HB4.out hb5)
    obtain ⟨z0,z1,z2,z3⟩:=HF.out w5 HB5.out
    have c0:w5.cell? ⟨w.heap.size,0,none⟩=some (.slice none 0 0):=(Lib.cell_of_heap z0 0).trans rfl
    have g0:w5.frozen? ⟨w.heap.size,0,none⟩=false:=Lib.frozen_of_heap z0 0
    clear hb5 hck y0 y1 y2 y3
    go_wp2_with fail
    have p0:=(Lib.cell_of_heap (box1_set (v:=Value.slice none 0 0) z0) 0).trans (b:=some (Value.slice none 0 0)) rfl
    refine bodyPost_ret (v:=.tuple #[.agg #[.slice none 0 0],.slice none 0 0,.int .i64 0,.iface 65 (.int .i64 ee)]) (by simp [results,Tryz.results9,go_sem,p0]) rfl ?_
    exact ⟨fun _=>by rw [HPE.out,HPK.out];rfl,fun h=>absurd (HPE.out.symm.trans h) HE0.out,(HBY.out.trans (HB5.out.mono (by omega))).setCell (Nat.le_refl _) _⟩
  ·have hge:0≤ebad (psD t) n (psS t):=by
    rcases findFrom_two (badE (psD t) n (psS t)) (psS t).pl.length 0 with h | ⟨h,-⟩
    ·exact absurd h hbd
    ·exact h
   obtain ⟨k,hk⟩:∃ k:Nat,ebad (psD t) n (psS t)=k:=⟨(ebad (psD t) n (psS t)).toNat,by omega⟩
   have hk0:parseErr (psD t) n ((psS t).pl.getD k noWd)≠0:=by
    rcases findFrom_two (badE (psD t) n (psS t)) (psS t).pl.length 0 with h | ⟨-,h⟩
    ·exact absurd h hbd
    ·have h9:(findFrom (badE (psD t) n (psS t)) (psS t).pl.length 0).toNat=k:=by
      have:findFrom (badE (psD t) n (psS t)) (psS t).pl.length 0=k:=hk
      omega
     rw [h9] at h
     unfold badE at h
     exact of_decide_eq_true h
   have h3:Calls Tryz.prog 32 #[.agg #[.slice A0 n cap],.slice Ac pl cc] w3 fun e w''=>e=.returned (.tuple #[.slice none 0 0,.int .i64 (((psS t).first+k:Nat):Int),.iface 65 (.int .i64 (parseErr (psD t) n ((psS t).pl.getD k noWd)))])∧Below w3.heap.size w3 w'':=h2.mono fun e w'' ⟨h4,_,h5⟩=>⟨h4 k hk,h5⟩
   have HPE:Hid (psE t=parseErr (psD t) n ((psS t).pl.getD k noWd)):=by
    show _=_
    rw [HPe.out]
    unfold psE2
    rw [if_neg (by simpa using HR.out),HN.out,hk,if_pos (by omega)]
    rfl
   have HPK:Hid (psK t=(psS t).first+k):=by
    show _=_
    rw [HPk.out]
    unfold psK2
    rw [if_neg (by simpa using HR.out),HN.out,hk,if_pos (by omega)]
    rfl
   have HK0:=hid_of hk0
   generalize parseErr (psD t) n ((psS t).pl.getD k noWd)=ee at h3 HPE HK0
   generalize (psS t).first+k=kk at h3 HPK
   clear h2 hbd HEn hge hk hk0
   go_wp2_with fail
   refine h3.mono ?_
   rintro e w4 ⟨rfl,hb4⟩
   have HB4:=hid_of (onB HB3.out hb4)
   obtain ⟨z0,z1,z2,z3⟩:=HF.out w4 HB4.out
   have c0:w4.cell? ⟨w.heap.size,0,none⟩=some (.slice none 0 0):=(Lib.cell_of_heap z0 0).trans rfl
   have g0:w4.frozen? ⟨w.heap.size,0,none⟩=false:=Lib.frozen_of_heap z0 0
   clear hb4 h3 x0 x1 x2 x3
   go_wp2_with fail
   have p0:=(Lib.cell_of_heap (box1_set (v:=Value.slice none 0 0) z0) 0).trans (b:=some (Value.slice none 0 0)) rfl
   refine bodyPost_ret (v:=.tuple #[.agg #[.slice none 0 0],.slice none 0 0,.int .i64 kk,.iface 65 (.int .i64 ee)]) (by simp [results,Tryz.results9,go_sem,p0]) rfl ?_
   exact ⟨fun _=>by rw [HPE.out,HPK.out],fun h=>absurd (HPE.out.symm.trans h) HK0.out,(HBY.out.trans (HB4.out.mono (by omega))).setCell (Nat.le_refl _) _⟩
 ·rw [errV_some hr] at hru
  have HK0:=hid_of hr
  have HPE:Hid (psE t=(ruErr (psD t) n).2.2):=by
   show _=_
   rw [HPe.out]
   unfold psE2
   rw [HN.out,if_pos hr]
  have HPK:Hid (psK t=0):=by
   show _=_
   rw [HPk.out]
   unfold psK2
   rw [HN.out,if_pos hr]
  generalize (ruErr (psD t) n).2.2=ee at hru HPE HK0
  clear hr
  go_wp2_with fail
  refine hru.mono ?_
  rintro e w4 ⟨rfl,hb4⟩
  have HB4:=hid_of hb4
  obtain ⟨z0,z1,z2,z3⟩:=HF.out w4 HB4.out
  have c0:w4.cell? ⟨w.heap.size,0,none⟩=some (.slice none 0 0):=(Lib.cell_of_heap z0 0).trans rfl
  have g0:w4.frozen? ⟨w.heap.size,0,none⟩=false:=Lib.frozen_of_heap z0 0
  clear hb4 hru
  go_wp2_with fail
  have p0:=(Lib.cell_of_heap (box1_set (v:=Value.slice none 0 0) z0) 0).trans (b:=some (Value.slice none 0 0)) rfl
  refine bodyPost_ret (v:=.tuple #[.agg #[.slice none 0 0],.slice none 0 0,.int .i64 0,.iface 65 (.int .i64 ee)]) (by simp [results,Tryz.results9,go_sem,p0]) rfl ?_
  exact ⟨fun _=>by rw [HPE.out,HPK.out];rfl,fun h=>absurd (HPE.out.symm.trans h) HK0.out,(HBY.out.trans (HB4.out.mono (by omega))).setCell (Nat.le_refl _) _⟩
theorem sparse_any (t:ByteArray) (w:World) (hE:EnvS w) (ht:t.size≤1048576):Calls Tryz.prog 9 #[.string t] w fun e w'=>PsA t w e w':=by
 cases hb:rdBad (piecesC 10 t) with
 | none=>exact sparse_good t w hE ht hb
 | some k =>
  have e1:psE t=2:=by unfold psE;rw [hb]
  have e2:psK t=k:=by unfold psK;rw [hb]
  refine (sparse_bad t k w hE ht hb).mono fun e w' ⟨he,hB⟩=>⟨fun _=>by rw [e1,e2];exact he,fun h=>?_,hB⟩
  rw [e1] at h
  cases h
end Go.Proofs.YtinebmjpdkjooaaGreatDoor
namespace Go.Proofs.YtinebmjpdkjooaaGreatDoor
open Go.ChangeShapes Go.WideShapes Go.ChangeAt Go.RowKit
set_option maxRecDepth 20000
set_option maxHeartbeats 2000000 in
theorem rless_any (A B:Option Addr) (ca cb:Nat) (a b:List Int) (w:World) (ha:a.length≤4) (hb:b.length≤4) (hA:PlAt w A ca a) (hB:PlAt w B cb b):Calls Tryz.prog 38 #[.slice A a.length ca,.slice B b.length cb] w fun e w'=>e=.returned (.bool (lessL a b))∧Below w.heap.size w w':=by
 have HA:Hid (PlAt w A ca a):=hA
 have HB:Hid (PlAt w B cb b):=hB
 have HN:Hid (∀ k,k<a.length→k<b.length→lessL (a.drop k) (b.drop k)=if a.getD k 0=b.getD k 0 then lessL (a.drop (k+1)) (b.drop (k+1)) else decide (a.getD k 0<b.getD k 0)):=fun k h1 h2=>lessL_in h1 h2
 have HL:Hid (∀ k,b.length≤k→lessL (a.drop k) (b.drop k)=false):=fun k h2=>lessL_long h2
 have HS:Hid (∀ k,a.length≤k→k<b.length→lessL (a.drop k) (b.drop k)=true):=fun k h1 h2=>lessL_short h1 h2
 obtain ⟨na,hna⟩:∃ na,a.length=na:=⟨_,rfl⟩
 obtain ⟨nb,hnb⟩:∃ nb,b.length=nb:=⟨_,rfl⟩
 have HNA:Hid (a.length=na):=hna
 have HNB:Hid (b.length=nb):=hnb
 rw [hna] at HN HS ha
 rw [hnb] at HN HL HS hb
 rw [hna,hnb]
 have ha':(na:Int)≤4:=by omega
 have hb':(nb:Int)≤4:=by omega
 clear hA hB hna hnb
 go_enter Tryz.func38,Tryz.ntmps38
 go_wp2_with fail
 go_loopg [5] na (fun g s5 wr => ∃ (k:Nat),k≤na∧k≤nb∧g=na-k∧s5=.int .i64 k∧Hid (lessL (a.drop k) (b.drop k)=lessL a b)∧Below w.heap.size w wr)
 case atStart=>exact ⟨0,Nat.zero_le _,Nat.zero_le _,rfl,rfl,(rfl:lessL (a.drop 0) (b.drop 0)=lessL a b),Below.refl _ _⟩
 case round =>
  obtain ⟨k,hk,hk2,rfl,rfl,HF,hBw⟩:=hrel
  have HBw:Hid (Below w.heap.size w wr):=hBw
  by_cases hlt:k<na
  ·have hki:(k:Int)<(na:Int):=by omega
   by_cases hlb:k<nb
   ·obtain ⟨hc,h0 | ⟨g1,o1,rfl,hbw,hcell⟩⟩:=HA.out.later hBw
    ·have:=HNA.out;rw [h0] at this;simp at this;omega
    obtain ⟨hc',h0 | ⟨g2,o2,rfl,hbw2,hcell2⟩⟩:=HB.out.later hBw
    ·have:=HNB.out;rw [h0] at this;simp at this;omega
    have x1:=hcell k (by rw [HNA.out];exact hlt)
    have x2:=hcell2 k (by rw [HNB.out];exact hlb)
    have hkb:(k:Int)<(nb:Int):=by omega
    have hst:=HN.out k hlt hlb
    generalize a.getD k 0=x at x1 hst
    generalize b.getD k 0=y at x2 hst
    clear hcell hcell2 hBw
    by_cases hxy:x=y
    ·have HR:Hid (lessL (a.drop (k+1)) (b.drop (k+1))=lessL a b):=by show _=_;rw [←HF.out,hst,if_pos hxy]
     subst hxy
     clear hst
     go_wp2_with fail
     go_quiet (fail)
     go_wp2_with fail
     go_roundg (na-(k+1))
     case measure=>omega
     case rel=>exact ⟨k+1,by omega,by omega,rfl,by go_num,HR,below_drewN HBw.out _⟩
    ·have HR:Hid (lessL a b=decide (x<y)):=by show _=_;rw [←HF.out,hst,if_neg hxy]
     clear hst
     go_wp2_with fail
     go_quiet (fail)
     go_wp2_with fail
     go_quiet (fail)
     go_wp2_with fail
     go_ret
     rw [HR.out]
     exact ⟨rfl,below_drewN (below_drewN HBw.out _) _⟩
   ·have HR:Hid (lessL a b=false):=by show _=_;rw [←HF.out,HL.out k (by omega)]
    have hkb:(nb:Int)≤(k:Int):=by omega
    have hnn:decide ((na:Int)<(nb:Int))=false:=decide_eq_false (by omega)
    have hnn':decide (na<nb)=false:=decide_eq_false (by omega)
    clear hBw
    go_wp2_with fail
    go_ret
    rw [HR.out]
    exact ⟨rfl,HBw.out⟩
  ·have hke:k=na:=by omega
   subst hke
   by_cases hlb:k<nb
   ·have HR:Hid (lessL a b=true):=by show _=_;rw [←HF.out,HS.out k (Nat.le_refl _) hlb]
    have hkb:(k:Int)<(nb:Int):=by omega
    clear hBw
    go_wp2_with fail
    go_ret
    rw [HR.out]
    exact ⟨rfl,HBw.out⟩
   ·have HR:Hid (lessL a b=false):=by show _=_;rw [←HF.out,HL.out k (by omega)]
    have hkb:(nb:Int)≤(k:Int):=by omega
    clear hBw
    go_wp2_with fail
    go_ret
    rw [HR.out]
    exact ⟨rfl,HBw.out⟩
end Go.Proofs.YtinebmjpdkjooaaGreatDoor
