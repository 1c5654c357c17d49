/-
  A cube that is written is read as it was, whole (plain data).
-/
import Derived.Test.YtpoklbfffgpbiaaGreatDoorJYBO
namespace Go.Proofs.YtpoklbfffgpbiaaGreatDoor
open Go Go.ChangeShapes Go.WideShapes Go.ChangeAt Go.RowKit
set_option maxRecDepth 20000
theorem nm_good {s:ByteArray} (h:nameErr s=0):NmG s:=by
 obtain ⟨h1,h2,h3⟩:=name_first h
 refine ⟨?_,name_no h⟩
 unfold nmW
 have e1:s.data.toList.isEmpty=false:=by
  have:s.data.toList.length≠0:=by rw [←Lib.size_eq];omega
  cases hl:s.data.toList with
  | nil=>rw [hl] at this;exact absurd rfl this
  | cons a r=>rfl
 have e2:s.data.toList.any badW=false:=by
  rw [List.any_eq_false]
  intro c hc
  obtain ⟨j,hj,he⟩:=List.getElem_of_mem hc
  have h4:=h3 j (by simpa using hj)
  unfold byteN at h4
  rw [List.getD_eq_getElem?_getD,List.getElem?_eq_getElem hj,he] at h4
  unfold badW
  intro hb
  rw [Bool.or_eq_true,beq_iff_eq,beq_iff_eq] at hb
  rcases hb with rfl | rfl <;> exact absurd h4 (by decide)
 rw [e1,e2]
 rfl
theorem ds_good {ds:List RDm} (h:(ruErr (dmL ds) ds.length).2.2=0):∀ d∈ds,DmG d:=by
 intro d hd
 obtain ⟨i,hi,he⟩:=List.getElem_of_mem hd
 have hD:dmL ds i=toDm d:=by unfold dmL;rw [List.getD_eq_getElem?_getD,List.getElem?_eq_getElem hi,Option.getD_some,he]
 have h1:=(allErr_right (ru_right h).1).2 i hi
 have h5:=dim_named h1
 obtain ⟨-,h6,h7⟩:=dim_right h1
 have h8:=(dimErr_right h1).2.2
 rw [hD] at h1 h5 h6 h7 h8
 refine ⟨nm_good h5,h6,h7,fun m hm=>?_⟩
 obtain ⟨j,hj,hje⟩:=List.getElem_of_mem hm
 have hmj:(toDm d).mem j=m:=by show d.mem.getD j noM=m;rw [List.getD_eq_getElem?_getD,List.getElem?_eq_getElem hj,Option.getD_some,hje]
 have h9:=h8.2 j hj
 have h12:=h8.1
 have hj12:j≤12:=by have:d.mem.length≤12:=h12;omega
 obtain ⟨-,m1,m2,m3,m4,-⟩:=mem_right h9 hj12
 have hfo:=fo_good h hi (k:=j) (by rw [hD];exact hj)
 rw [hD,hmj] at hfo
 have hnm:=mem_named h9
 rw [hmj] at m1 m2 m3 m4 hnm
 exact ⟨nm_good hnm,m1,m2,by omega,hfo⟩
theorem pl_good {D:Nat→Dm} {n:Nat} {L:List Int} (h:InO D n L):(piecesC 46 (mkB (textTo D L n))).all nmW=true∧∀ c∈(mkB (textTo D L n)).data.toList,c≠10∧c≠32:=by
 have hn:∀ k,k<n→nameErr (nameB D L k)=0:=fun k hk=>by
  have h1:=h.lo k hk
  have h2:=h.hi k hk
  unfold nameB
  exact mem_named ((dimErr_right ((allErr_right h.right).2 k hk)).2.2.2 _ (by omega))
 refine ⟨?_,fun c hc=>textTo_no (fun k hk=>name_no (hn k hk)) n (Nat.le_refl _) c hc⟩
 rw [pcs_map,mkB_data,h.cut,List.all_eq_true]
 intro x hx
 obtain ⟨y,hy,rfl⟩:=List.mem_map.1 hx
 unfold nameL at hy
 obtain ⟨k,hk,rfl⟩:=List.mem_map.1 hy
 rw [mkB_back]
 exact (nm_good (hn k (List.mem_range.1 hk))).1
theorem sh_small {D:Nat→Dm} {n:Nat} {l:List En} (h:shE D n l=0):(shT D n l).length≤1048576:=by
 obtain ⟨-,hE⟩:=she_ok h
 obtain ⟨hn,hd⟩:=allErr_right hE.right
 have hn4:n≤4:=(allErr_some hE.right).2.1
 have h1:=dimsT_len hd n (Nat.le_refl _)
 have h2:∀ l':List En,(∀ e∈l',InO D n e.pl∧numOk e.n=true)→(celsT D n l').length≤l'.length*300:=by
  intro l'
  induction l' with
  | nil=>intro _;simp [celsT]
  | cons e r ih =>
   intro hh
   have i1:=ih fun x hx=>hh x (List.mem_cons_of_mem _ hx)
   obtain ⟨j1,j2⟩:=hh e (List.mem_cons_self ..)
   have j3:=textTo_len j1 n (Nat.le_refl _)
   unfold numOk at j2
   simp only [Bool.and_eq_true,decide_eq_true_eq] at j2
   have j4:=Lib.itoa_length_le e.n (by omega) (by omega)
   have j5:(celT D n e).length≤300:=by
    unfold celT
    simp only [List.length_append,List.length_cons,List.length_nil]
    omega
   unfold celsT at i1 ⊢
   rw [List.flatMap_cons,List.length_append,List.length_cons]
   omega
 have h3:=h2 l fun e he=>⟨(hE.each e he).1,(hE.each e he).2.2⟩
 have h4:=hE.few
 unfold shT
 rw [List.length_append]
 omega
theorem cels_list (D:Nat→Dm) (n:Nat):∀ l:List En,celsT D n l=shTx (celLs (l.map fun e=>mkB (textTo D e.pl n)) (l.map En.n))
 | []=>rfl
 | e :: r=>by
  have ih:=cels_list D n r
  unfold celsT at ih ⊢
  rw [List.flatMap_cons,ih]
  rfl
theorem print_read {ds:List RDm} {l:List En} (h:shE (dmL ds) ds.length l=0):(shV (dmL ds) ds.length l).size≤1048576∧psE (shV (dmL ds) ds.length l)=0∧psN (shV (dmL ds) ds.length l)=ds.length∧psD (shV (dmL ds) ds.length l)=dmL ds∧psL (shV (dmL ds) ds.length l)=l:=by
 obtain ⟨hr,hE⟩:=she_ok h
 have hds:=ds_good hr
 have hin:∀ e∈l,InO (dmL ds) ds.length e.pl∧numOk e.n=true:=fun e he=>⟨(hE.each e he).1,(hE.each e he).2.2⟩
 obtain ⟨pl,hpl⟩:∃ pl,(l.map fun e=>mkB (textTo (dmL ds) e.pl ds.length))=pl:=⟨_,rfl⟩
 obtain ⟨num,hnum⟩:∃ num,l.map En.n=num:=⟨_,rfl⟩
 have hpg:∀ p∈pl,(piecesC 46 p).all nmW=true∧∀ c∈p.data.toList,c≠10∧c≠32:=fun p hp=>by
  rw [←hpl] at hp
  obtain ⟨e,he,rfl⟩:=List.mem_map.1 hp
  exact pl_good (hin e he).1
 have hng:∀ x∈num,-10000000<x∧x<10000000:=fun x hx=>by
  rw [←hnum] at hx
  obtain ⟨e,he,rfl⟩:=List.mem_map.1 hx
  have:=(hin e he).2
  unfold numOk at this
  simp only [Bool.and_eq_true,decide_eq_true_eq] at this
  omega
 have hlen:num.length=pl.length:=by rw [←hnum,←hpl];simp
 obtain ⟨f',hrun⟩:=run_cels ds pl num [] [] 0 (0+((ds.flatMap dimLs).map mkB).length) hlen hpg hng
 have hrun2:runL rd0S 0 ((lnL ds pl num).map mkB)=some ⟨ds,pl,num,f'⟩:=by
  unfold lnL
  rw [List.map_append]
  have h1:=run_dims ds [] 0 hds
  rw [List.nil_append] at h1
  have h2:=runL_app _ ((celLs pl num).map mkB) rd0S ⟨ds,[],[],0⟩ 0 h1
  rw [h2,hrun]
  simp
 have hx:∀ x∈lnL ds pl num,(10:UInt8)∉x:=fun x hx=>by
  unfold lnL at hx
  rcases List.mem_append.1 hx with hx | hx
  ·obtain ⟨d,hd,hx⟩:=List.mem_flatMap.1 hx
   have hg:=hds d hd
   unfold dimLs at hx
   rcases List.mem_cons.1 hx with rfl | hx
   ·unfold dimW
    simp only [List.mem_append,not_or]
    exact ⟨⟨⟨by decide,no10 hg.name.2⟩,by decide⟩,no10 (itoa_no _)⟩
   ·obtain ⟨m,hm,rfl⟩:=List.mem_map.1 hx
    have hm2:=hg.mems m hm
    unfold memW
    simp only [List.mem_append,not_or]
    exact ⟨⟨⟨⟨⟨⟨by decide,no10 hm2.name.2⟩,by decide⟩,no10 (paB_no _)⟩,by decide⟩,no10 (sgT_no _)⟩,no10 (foB_no hm2.form)⟩
  ·rw [celLs_range pl num hlen] at hx
   obtain ⟨k,hk,rfl⟩:=List.mem_map.1 hx
   have hk':=List.mem_range.1 hk
   have hg:=hpg (pl.getD k noWd) (by rw [List.getD_eq_getElem?_getD,List.getElem?_eq_getElem hk',Option.getD_some];exact List.getElem_mem hk')
   unfold celW
   simp only [List.mem_append,not_or]
   exact ⟨⟨⟨by decide,no10 hg.2⟩,by decide⟩,no10 (itoa_no _)⟩
 have ht:shV (dmL ds) ds.length l=mkB (shTx (lnL ds pl num)):=by
  unfold shV
  rw [if_pos h]
  unfold shT lnL
  rw [shTx_app,dimsT_list,cels_list,hpl,hnum]
  rfl
 have hsz:=sh_small h
 obtain ⟨hS,hbad⟩:=run_text (lnL ds pl num) ⟨ds,pl,num,f'⟩ hx hrun2
 rw [←ht] at hS hbad
 generalize hT:shV (dmL ds) ds.length l=T at hS hbad
 have hs:T.size≤1048576:=by
  rw [←hT]
  unfold shV
  rw [if_pos h]
  show (List.toArray _).size≤_
  rw [List.size_toArray]
  exact hsz
 have eD:psD T=dmL ds:=by unfold psD;rw [hS]
 have eN:psN T=ds.length:=by unfold psN;rw [hS]
 have hpk:∀ k,k<l.length→pl.getD k noWd=mkB (textTo (dmL ds) (l.getD k noEn).pl ds.length)∧num.getD k 0=(l.getD k noEn).n∧InO (dmL ds) ds.length (l.getD k noEn).pl:=fun k hk=>by
  refine ⟨?_,?_,?_⟩
  ·rw [←hpl];simp [List.getD,hk]
  ·rw [←hnum];simp [List.getD,hk]
  ·refine (hin _ ?_).1
   rw [List.getD_eq_getElem?_getD,List.getElem?_eq_getElem hk,Option.getD_some]
   exact List.getElem_mem hk
 have hpll:pl.length=l.length:=by rw [←hpl];simp
 have hpe:∀ k,k<l.length→parseErr (dmL ds) ds.length (pl.getD k noWd)=0∧parseL (dmL ds) ds.length (pl.getD k noWd)=(l.getD k noEn).pl:=fun k hk=>by
  obtain ⟨q1,-,q3⟩:=hpk k hk
  obtain ⟨t1,t2⟩:=text_read q3
  rw [q1]
  refine ⟨t1,?_⟩
  unfold parseL
  have t1':parseErr (dmL ds) ds.length (mkB (textTo (dmL ds) (l.getD k noEn).pl ds.length))=0:=t1
  rw [if_pos t1']
  exact t2
 have eL:psL T=l:=by
  unfold psL
  rw [eD,eN,hS]
  unfold esL
  show (List.range pl.length).map _=l
  rw [hpll]
  apply List.ext_getElem
  ·simp
  ·intro k h1 h2
   rw [List.getElem_map,List.getElem_range]
   unfold enOf
   show (⟨parseL _ _ (pl.getD k noWd),num.getD k 0⟩:En)=_
   rw [(hpe k h2).2,(hpk k h2).2.1]
   rw [List.getD_eq_getElem?_getD,List.getElem?_eq_getElem h2,Option.getD_some]
 refine ⟨hs,?_,eN,eD,eL⟩
 unfold psE
 rw [hbad]
 show psE2 T=0
 unfold psE2
 have hb:ebad (psD T) (psN T) (psS T) = -1:=by
  rw [eD,eN,hS]
  unfold ebad
  refine findFrom_none fun j _ hj=>?_
  have hj':j<l.length:=by
   have:j<0+pl.length:=hj
   omega
  unfold badE
  show decide (parseErr _ _ (pl.getD j noWd)≠0)=false
  rw [(hpe j hj').1]
  rfl
 rw [hb,eD,eN,eL,hr,if_neg (by decide),if_neg (by decide)]
 unfold shE at h
 rw [hr,if_neg (by decide)] at h
 exact h
end Go.Proofs.YtpoklbfffgpbiaaGreatDoor
namespace Go.Proofs.YtpoklbfffgpbiaaGreatDoor
open Go.ChangeShapes Go.WideShapes Go.ChangeAt Go.RowKit
set_option maxRecDepth 20000
theorem samepl_end {a b:List Int} (hl:a.length=b.length) {k:Nat} (hk:a.length≤k) (h:∀ j,j<k→a.getD j 0=b.getD j 0):a=b:=by
 apply List.ext_getElem hl
 intro i h1 h2
 have:=h i (by omega)
 simpa [List.getD,h1,h2] using this
set_option maxHeartbeats 1000000 in
theorem samepl_any (A B:Option Addr) (ca cb:Nat) (a b:List Int) (w:World) (hn:a.length≤4) (hA:PlAt w A ca a) (hB:PlAt w B cb b):Calls Tryz.prog 21 #[.slice A a.length ca,.slice B b.length cb] w fun e w'=>e=.returned (.bool (decide (a=b)))∧Below w.heap.size w w':=by
 by_cases hl:a.length=b.length
 ·obtain ⟨hc,h0 | ⟨g,o,rfl,hbw,hcell⟩⟩:=hA
  ·subst h0
   have h1:b=[]:=List.eq_nil_of_length_eq_zero hl.symm
   subst h1
   simp only [List.length_nil]
   go_enter Tryz.func21,Tryz.ntmps21
   go_wp2_with fail
   refine wp_loop_rounds 1 ?_
   rw [rounds_succ]
   go_wp2_with fail
   go_ret
   exact ⟨rfl,Below.refl _ _⟩
  ·obtain ⟨hc',h0 | ⟨g',o',rfl,hbw',hcell'⟩⟩:=hB
   ·subst h0
    have h1:a=[]:=List.eq_nil_of_length_eq_zero hl
    subst h1
    simp only [List.length_nil]
    go_enter Tryz.func21,Tryz.ntmps21
    go_wp2_with fail
    refine wp_loop_rounds 1 ?_
    rw [rounds_succ]
    go_wp2_with fail
    go_ret
    exact ⟨rfl,Below.refl _ _⟩
   ·have HC:Hid (∀ j,j<a.length→w.cell? ⟨g,o+j,none⟩=some (.int .i64 (a.getD j 0))):=hcell
    have HC':Hid (∀ j,j<a.length→w.cell? ⟨g',o'+j,none⟩=some (.int .i64 (b.getD j 0))):=fun j hj=>hcell' j (by omega)
    have HE:Hid (∀ k,a.length≤k→(∀ j,j<k→a.getD j 0=b.getD j 0)→decide (a=b)=true):=fun k hk h=>decide_eq_true (samepl_end hl hk h)
    have HN:Hid (∀ k,a.getD k 0≠b.getD k 0→decide (a=b)=false):=fun k h=>decide_eq_false fun e=>h (by rw [e])
    rw [←hl]
    rw [←hl] at hc'
    generalize hnn:a.length=n at hn hc hc' HC HC' HE
    generalize decide (a=b)=res at HE HN
    clear hcell hcell' hnn hl
    have hn':(n:Int)≤4:=by omega
    go_enter Tryz.func21,Tryz.ntmps21
    go_wp2_with fail
    go_loopg [5] n (fun gg s5 wr => ∃ (k:Nat),k≤n∧gg=n-k∧s5=.int .i64 k∧(∀ j,j<k→a.getD j 0=b.getD j 0)∧Below w.heap.size w wr)
    case atStart=>exact ⟨0,Nat.zero_le _,rfl,rfl,fun j hj=>absurd hj (Nat.not_lt_zero _),Below.refl _ _⟩
    case round =>
     obtain ⟨k,hk,rfl,rfl,hsame,hBw⟩:=hrel
     have HBw:Hid (Below w.heap.size w wr):=hBw
     have HS:Hid (∀ j,j<k→a.getD j 0=b.getD j 0):=hsame
     clear hsame
     by_cases hlt:k<n
     ·have hki:(k:Int)<(n:Int):=by omega
      have x1:=(hBw.cell (p:=⟨g,o+k,none⟩) hbw).trans (HC.out k hlt)
      have x2:=(hBw.cell (p:=⟨g',o'+k,none⟩) hbw').trans (HC'.out k hlt)
      by_cases hxy:a.getD k 0=b.getD k 0
      ·have HXY:Hid (a.getD k 0=b.getD k 0):=hxy
       rw [←hxy] at x2
       generalize a.getD k 0=x at x1 x2
       clear hBw hxy
       go_wp2_with fail
       go_quiet (fail)
       go_wp2_with fail
       go_roundg (n-(k+1))
       case measure=>omega
       case rel =>
        refine ⟨k+1,by omega,rfl,by go_num,fun j hj=>?_,below_drewN HBw.out _⟩
        rcases Nat.lt_succ_iff_lt_or_eq.1 hj with h1 | rfl
        ·exact HS.out j h1
        ·exact HXY.out
      ·have HR:Hid (res=false):=HN.out k hxy
       generalize a.getD k 0=x at x1 hxy
       generalize b.getD k 0=y at x2 hxy
       clear hBw
       go_wp2_with fail
       go_quiet (fail)
       go_wp2_with fail
       go_ret
       rw [HR.out]
       exact ⟨rfl,below_drewN HBw.out _⟩
     ·have hke:k=n:=by omega
      subst hke
      have HR:Hid (res=true):=HE.out k (Nat.le_refl _) HS.out
      go_wp2_with fail
      go_ret
      rw [HR.out]
      exact ⟨rfl,hBw⟩
 ·have hr:decide (a=b)=false:=decide_eq_false fun e=>hl (by rw [e])
  rw [hr]
  have hl' : ¬ ((a.length:Int)=(b.length:Int)):=by omega
  clear hA hB hr
  generalize a.length=n at hl hl' hn
  generalize b.length=m at hl hl'
  go_enter Tryz.func21,Tryz.ntmps21
  go_wp2_with fail
  go_ret
  exact ⟨rfl,Below.refl _ _⟩
theorem keepE {W w':World} {b o b' o':Nat} {u v:Value} (h:b<W.heap.size∧b'<W.heap.size∧W.cell? ⟨b,o,none⟩=some u∧W.cell? ⟨b',o',none⟩=some v) (hB:Below W.heap.size W w'):Below W.heap.size W w'∧w'.cell? ⟨b,o,none⟩=some u∧w'.cell? ⟨b',o',none⟩=some v :=
 ⟨hB,(hB.cell (p:=⟨b,o,none⟩) h.1).trans h.2.2.1,(hB.cell (p:=⟨b',o',none⟩) h.2.1).trans h.2.2.2⟩
set_option maxHeartbeats 8000000 in
theorem sameents_any (A B:Option Addr) (ca cb:Nat) (xs ys:List EnL) (w:World) (hl:lE xs=lE ys) (hn:xs.length≤3000) (hS:∀ k,k<xs.length→(xs.getD k noL).e.pl.length≤4) (hA:EnsV w A ca xs) (hB:EnsV w B cb ys) :
  Calls Tryz.prog 8 #[.slice A xs.length ca,.slice B ys.length cb] w fun e w'=>e=.returned (.bool true)∧Below w.heap.size w w':=by
 have hll:ys.length=xs.length:=by rw [←lE_len,←hl,lE_len]
 have HA:Hid (EnsV w A ca xs):=hA
 have HB:Hid (EnsV w B cb ys):=hB
 have HEq:Hid (∀ k,(ys.getD k noL).e=(xs.getD k noL).e):=fun k=>by rw [←lE_at,←lE_at,hl]
 have HS:Hid (∀ k,k<xs.length→(xs.getD k noL).e.pl.length≤4):=hS
 obtain ⟨n,hnn⟩:∃ n,xs.length=n:=⟨_,rfl⟩
 have HN:Hid (xs.length=n):=hnn
 have HN2:Hid (ys.length=n):=hll.trans hnn
 rw [hll]
 rw [hnn] at hn ⊢
 have hn':(n:Int)≤3000:=by omega
 clear hA hB hl hS hll hnn
 go_enter Tryz.func8,Tryz.ntmps8
 go_wp2_with fail
 go_loopg [5] n (fun g s5 wr => ∃ (k:Nat),k≤n∧g=n-k∧s5=.int .i64 k∧Below w.heap.size w wr)
 case atStart=>exact ⟨0,Nat.zero_le _,rfl,rfl,Below.refl _ _⟩
 case round =>
  obtain ⟨k,hk,rfl,rfl,hBw⟩:=hrel
  have HBw:Hid (Below w.heap.size w wr):=hBw
  by_cases hlt:k<n
  ·have hki:(k:Int)<(n:Int):=by omega
   obtain ⟨-,-,h0 | ⟨b,o,rfl,hXs⟩⟩:=HA.out.later hBw
   ·have:=HN.out;rw [h0] at this;simp at this;omega
   obtain ⟨-,-,h0 | ⟨b',o',rfl,hYs⟩⟩:=HB.out.later hBw
   ·have:=HN2.out;rw [h0] at this;simp at this;omega
   obtain ⟨c1,c2⟩:=hXs.at (k:=k) (by rw [HN.out];exact hlt)
   obtain ⟨d1,d2⟩:=hYs.at (k:=k) (by rw [HN2.out];exact hlt)
   have hp1:=hXs.pl (k:=k) (by rw [HN.out];exact hlt)
   have hp2:=hYs.pl (k:=k) (by rw [HN2.out];exact hlt)
   rw [HEq.out k] at d1 d2 hp2
   have HSm:Hid (∀ w',Below wr.heap.size wr w'→Calls Tryz.prog 21 #[.slice (xs.getD k noL).A (xs.getD k noL).e.pl.length (xs.getD k noL).c,.slice (ys.getD k noL).A (xs.getD k noL).e.pl.length (ys.getD k noL).c] w' fun e w''=>e=.returned (.bool true)∧Below w'.heap.size w' w''):=fun w' hw'=>by
    have h:=samepl_any _ _ _ _ _ _ w' (HS.out k (by rw [HN.out];exact hlt)) (hp1.later hw') (hp2.later hw')
    rw [decide_eq_true rfl] at h
    exact h
   have hb1:=hXs.1
   have hb2:=hYs.1
   generalize (xs.getD k noL).A=A1 at c1 HSm
   generalize (xs.getD k noL).c=k1 at c1 HSm
   generalize (ys.getD k noL).A=A2 at d1 HSm
   generalize (ys.getD k noL).c=k2 at d1 HSm
   generalize (xs.getD k noL).e.n=n1 at c2 d2
   generalize (xs.getD k noL).e.pl.length=m1 at c1 d1 HSm
   have HC:Hid (b<wr.heap.size∧b'<wr.heap.size∧wr.cell? ⟨b,o+k*2,none⟩=some (.slice A1 m1 k1)∧wr.cell? ⟨b',o'+k*2,none⟩=some (.slice A2 m1 k2)):=⟨hb1,hb2,c1,d1⟩
   have HC2:Hid (wr.cell? ⟨b,o+k*2+1,none⟩=some (.int .i64 n1)∧wr.cell? ⟨b',o'+k*2+1,none⟩=some (.int .i64 n1)):=⟨c2,d2⟩
   clear hXs hYs hp1 hp2 c1 c2 d1 d2 hBw
   go_wp2_with fail
   go_cut [6] (fun s6 wx=>s6=.bool true∧Below wr.heap.size wr wx)
   case first=>as_aux_lemma =>
    go_region_held3 (fun w'=>Below wr.heap.size wr w'∧w'.cell? ⟨b,o+k*2,none⟩=some (.slice A1 m1 k1)∧w'.cell? ⟨b',o'+k*2,none⟩=some (.slice A2 m1 k2))
     ((refine keepE HC.out ?_;go_grown;done))
     (first | (go_at_call 21;refine (HSm.out _ (by go_grown)).mono ?_;rintro e w3 ⟨rfl,hb3⟩;have hN3:=onB (W0:=wr) (by go_grown) hb3;have hy3:=hN3.size;clear hb3))
    all_goals go_wp2_with fail
    all_goals go_meet
    all_goals exact ⟨rfl,by go_grown⟩
   case rest=>as_aux_lemma =>
   obtain ⟨rfl,hb⟩:=hcut
   obtain ⟨w2,rfl⟩:∃ w2:World,w2=wc:=⟨_,rfl⟩
   have HB2:Hid (Below wr.heap.size wr w2):=hb
   have f1:w2.cell? ⟨b,o+k*2+1,none⟩=some (.int .i64 n1):=(hb.cell (p:=⟨b,o+k*2+1,none⟩) hb1).trans HC2.out.1
   have f2:w2.cell? ⟨b',o'+k*2+1,none⟩=some (.int .i64 n1):=(hb.cell (p:=⟨b',o'+k*2+1,none⟩) hb2).trans HC2.out.2
   clear hb HC HC2 HSm
   go_wp2_with fail
   go_quiet (fail)
   go_wp2_with fail
   go_roundg (n-(k+1))
   case measure=>omega
   case rel=>exact ⟨k+1,by omega,rfl,by go_num,below_drewN (onB HBw.out HB2.out) _⟩
  ·have hke:k=n:=by omega
   subst hke
   go_wp2_with fail
   go_ret
   exact ⟨rfl,hBw⟩
end Go.Proofs.YtpoklbfffgpbiaaGreatDoor
