/-
  What the document tells of a change is what the program tells: plain facts.
-/
import Derived.Test.YtfldgghobddgkaaGreatDoorJDBS
namespace Go.Proofs.YtfldgghobddgkaaGreatDoor
open Go Go.ChangeShapes Go.WideShapes Go.ChangeAt Go.RowKit
set_option maxRecDepth 100000
theorem scanD_first {D:Nat→Dm} {k:Nat}:∀ (r i:Nat),i≤k→k<i+r→(∀ j,i≤j→j<k→(oneD D j).2=0)→(oneD D k).2≠0→(scanD D r i).2.2=(oneD D k).2
 | 0,i,h1,h2,_,_=>by omega
 | r+1,i,h1,h2,h3,h4=>by
  by_cases e:i=k
  ·subst e;rw [scanD_bad r h4]
  ·rw [scanD_ok r (h3 i (Nat.le_refl _) (by omega))]
   exact scanD_first r (i+1) (by omega) (by omega) (fun j h5 h6=>h3 j (by omega) h6) h4
theorem scanD_none {D:Nat→Dm}:∀ (r i:Nat),(∀ j,i≤j→j<i+r→(oneD D j).2=0)→(scanD D r i).2.2=0
 | 0,_,_=>rfl
 | r+1,i,h=>by
  rw [scanD_ok r (h i (Nat.le_refl _) (by omega))]
  exact scanD_none r (i+1) fun j h5 h6=>h j (by omega) (by omega)
theorem clashD_put {D:Nat→Dm} {k:Nat} {d':Dm} (hn:d'.name=(D k).name) (i:Nat):clashD (putD D k d') i=clashD D i:=by
 have e:∀ j,(putD D k d' j).name=(D j).name:=fun j=>by
  unfold putD
  by_cases h:j=k
  ·rw [if_pos h,h,hn]
  ·rw [if_neg h]
 unfold clashD
 simp only [e]
theorem prod_le {D D':Nat→Dm}:∀ n:Nat,(∀ i,i<n→(D' i).n≤(D i).n)→prodN D' n≤prodN D n
 | 0,_=>Nat.le_refl _
 | n+1,h=>Nat.mul_le_mul (prod_le n fun i hi=>h i (by omega)) (h n (Nat.lt_succ_self n))
theorem ru_put {D:Nat→Dm} {n k:Nat} {d':Dm} (hr:(ruErr D n).2.2=0) (hk:k<n) (hn:d'.name=(D k).name) (hl:d'.n≤(D k).n) (hb:(rErr d').2≠0):(ruErr (putD D k d') n).2.2=(rErr d').2:=by
 obtain ⟨hall,hre⟩:=ru_parts hr
 obtain ⟨h1,h4,h3,hd⟩:=allErr_some hall
 have hdr:=(allErr_right hall).2
 have hcl:∀ i,i<n→clashD D i=false:=fun i hi=>by
  have h0:(scanD D n 0).2.2=0:=by
   unfold allErr at hall
   rw [if_neg (by omega),if_neg (by omega)] at hall
   by_cases hs:(scanD D n 0).2.2≠0
   ·rw [if_pos hs] at hall;exact absurd hall hs
   ·simpa using hs
  cases hc:clashD D i with
  | false=>rfl
  | true =>
   exfalso
   have hone:∀ j,j<n→(oneD D j).2=0∨(oneD D j).2≠0:=fun j _=>by omega
   have hne:(oneD D i).2≠0:=by unfold oneD;rw [if_neg (by simpa using hdr i hi),if_pos hc];decide
   obtain ⟨m,hm1,hm2,hm3⟩:∃ m,m≤i∧(oneD D m).2≠0∧∀ j,j<m→(oneD D j).2=0:=by
    have:∀ t:Nat,t≤i→(∀ j,j<t→(oneD D j).2=0)∨∃ m,m≤i∧(oneD D m).2≠0∧∀ j,j<m→(oneD D j).2=0:=by
     intro t
     induction t with
     | zero=>exact fun _=>Or.inl fun j h=>absurd h (Nat.not_lt_zero _)
     | succ t ih =>
      intro ht
      rcases ih (by omega) with h | h
      ·by_cases h5:(oneD D t).2=0
       ·exact Or.inl fun j hj=>(Nat.lt_or_eq_of_le (Nat.le_of_lt_succ hj)).elim (h j) fun e=>e ▸ h5
       ·exact Or.inr ⟨t,by omega,h5,h⟩
      ·exact Or.inr h
    rcases this i (Nat.le_refl _) with h | h
    ·exact ⟨i,Nat.le_refl _,hne,h⟩
    ·exact h
   have:=scanD_first n 0 (Nat.zero_le _) (by omega:m<0+n) (fun j _ hj=>hm3 j hj) hm2
   rw [h0] at this
   exact hm2 this.symm
 have hoth:∀ j,j<n→j≠k→(oneD (putD D k d') j).2=0:=fun j hj hjk=>by
  unfold oneD
  rw [clashD_put hn,putD_off D d' hjk,if_neg (by simpa using hdr j hj),hcl j hj];rfl
 by_cases hd':(dimErr d').2≠0
 ·have hat:oneD (putD D k d') k=dimErr d':=by unfold oneD;rw [putD_at,if_pos hd']
  have hs:=scanD_first (D:=putD D k d') n 0 (Nat.zero_le _) (by omega:k<0+n) (fun j _ hj=>hoth j (by omega) (by omega)) (by rw [hat];exact hd')
  rw [hat] at hs
  have ha:allErr (putD D k d') n=scanD (putD D k d') n 0:=by
   unfold allErr
   rw [if_neg (by omega),if_neg (by omega),if_pos (by rw [hs];exact hd')]
  rw [ru0 (by rw [ha,hs];exact hd'),ha,hs,re0 hd']
 ·have hd0:(dimErr d').2=0:=by simpa using hd'
  have hat:(oneD (putD D k d') k).2=0:=by
   unfold oneD
   rw [clashD_put hn,putD_at,if_neg (by simpa using hd0),hcl k hk];rfl
  have hs:=scanD_none (D:=putD D k d') n 0 fun j _ hj=>by
   by_cases e:j=k
   ·rw [e];exact hat
   ·exact hoth j (by omega) e
  have hp:prodN (putD D k d') n≤prodN D n:=prod_le n fun i _=>by
   by_cases e:i=k
   ·rw [e,putD_at];exact hl
   ·rw [putD_off D d' e];exact Nat.le_refl _
  have ha:(allErr (putD D k d') n).2.2=0:=by
   unfold allErr
   rw [if_neg (by omega),if_neg (by omega),if_neg (by simpa using hs),if_neg (by omega)]
  rw [ru1 ha hk (by rw [putD_at];exact hb) fun j hj=>by rw [putD_off D d' (by omega)];exact hre j (by omega),putD_at]
theorem ren_mem {d:Dm} {i:Nat} {nm:ByteArray} (hd:(dimErr d).2=0) (hi:i<d.n) (hz:renE d i nm=0) {j:Nat} (hj:j<d.n):memErr (renD d i nm).mem j=if 100<(refT (d.mem i).name nm (d.mem j).formula).size then 4 else 0:=by
 have hm:=(dimErr_right hd).2.2.2
 have hnm:nameErr nm=0:=by
  unfold renE at hz
  by_cases h1:nameErr nm≠0
  ·rw [if_pos h1] at hz;exact absurd hz h1
  ·simpa using h1
 have hno : ¬ (same nm (d.mem i).name=false∧0≤findFrom (fun j=>same (d.mem j).name nm) d.n 0):=fun h=>by
  unfold renE at hz
  rw [if_neg (by simpa using hnm),if_pos h] at hz;cases hz
 have hsame:∀ a,a<d.n→a≠i→same (d.mem a).name nm=false:=fun a ha hai=>by
  cases hs:same (d.mem a).name nm with
  | false=>rfl
  | true =>
   exfalso
   cases h1:same nm (d.mem i).name with
   | true=>exact hai (dim_dis hd a i ha hi (same_iffL.2 ((same_iffL.1 hs).trans (same_iffL.1 h1))))
   | false =>
    refine hno ⟨h1,?_⟩
    rcases findFrom_cases (fun j=>same (d.mem j).name nm) d.n 0 with ⟨-,h2⟩ | ⟨k,e,-⟩
    ·have h9:same (d.mem a).name nm=false:=h2 a (Nat.zero_le _) (by omega)
     rw [hs] at h9;cases h9
    ·rw [e];omega
 have hname:∀ x,((renD d i nm).mem x).name=if x=i then nm else (d.mem x).name:=fun _=>rfl
 have hme:=hm j hj
 unfold memErr at hme ⊢
 have g1:nameErr ((renD d i nm).mem j).name=0:=by
  rw [hname]
  split
  ·exact hnm
  ·exact mem_name (hm j hj)
 have g2:clash (renD d i nm).mem j=false:=by
  unfold clash
  refine decide_eq_false fun h=>?_
  rcases findFrom_cases (fun x=>same ((renD d i nm).mem x).name ((renD d i nm).mem j).name) j 0 with ⟨e,-⟩ | ⟨x,e,-,h2,h3,-⟩
  ·rw [e] at h;omega
  ·have h3':same ((renD d i nm).mem x).name ((renD d i nm).mem j).name=true:=h3
   rw [hname,hname] at h3'
   by_cases hx:x=i
   ·rw [if_pos hx,if_neg (by omega)] at h3'
    rw [same_sym,hsame j hj (by omega)] at h3';cases h3'
   ·rw [if_neg hx] at h3'
    by_cases hji:j=i
    ·rw [if_pos hji,hsame x (by omega) hx] at h3';cases h3'
    ·rw [if_neg hji] at h3'
     have:=dim_dis hd x j (by omega) hj h3'
     omega
 have e1:nameErr (d.mem j).name=0:=mem_name (hm j hj)
 have e2:clash d.mem j=false:=by
  cases hc:clash d.mem j with
  | false=>rfl
  | true=>rw [if_neg (by simpa using e1),if_pos hc] at hme;cases hme
 rw [if_neg (by simpa using e1),if_neg (by rw [e2];decide)] at hme
 rw [if_neg (by simpa using g1),if_neg (by rw [g2];decide)]
 show (if (d.mem j).parent < -1∨(j:Int)≤(d.mem j).parent then 1 else if 0≤(d.mem j).parent∧(refT (d.mem i).name nm (d.mem (d.mem j).parent.toNat).formula).size≠0 then 6 else if (d.mem j).sign < -1∨1<(d.mem j).sign then 1 else if 100<(refT (d.mem i).name nm (d.mem j).formula).size then 4 else 0)=_
 by_cases a1:(d.mem j).parent < -1∨(j:Int)≤(d.mem j).parent
 ·rw [if_pos a1] at hme;cases hme
 rw [if_neg a1] at hme ⊢
 by_cases a2:0≤(d.mem j).parent∧(d.mem (d.mem j).parent.toNat).formula.size≠0
 ·rw [if_pos a2] at hme;cases hme
 have b2 : ¬ (0≤(d.mem j).parent∧(refT (d.mem i).name nm (d.mem (d.mem j).parent.toNat).formula).size≠0):=fun h=>by
  refine a2 ⟨h.1,fun h0=>h.2 ?_⟩
  unfold refT;rw [if_pos h0];exact h0
 rw [if_neg a2] at hme
 rw [if_neg b2]
 by_cases a3:(d.mem j).sign < -1∨1<(d.mem j).sign
 ·rw [if_pos a3] at hme;cases hme
 rw [if_neg a3]
theorem scan_first {M:Nat→Mem} {k:Nat}:∀ (r i:Nat),i≤k→k<i+r→(∀ j,i≤j→j<k→memErr M j=0)→memErr M k≠0→(scan M r i).2=memErr M k
 | 0,i,h1,h2,_,_=>by omega
 | r+1,i,h1,h2,h3,h4=>by
  by_cases e:i=k
  ·subst e;simp [scan,h4]
  ·rw [scan_ok r (h3 i (Nat.le_refl _) (by omega))]
   exact scan_first r (i+1) (by omega) (by omega) (fun j h5 h6=>h3 j (by omega) h6) h4
theorem dim_scanned {d d':Dm} (hd:(dimErr d).2=0) (e1:d'.name=d.name) (e2:d'.solve=d.solve) (e3:d'.n=d.n):dimErr d'=scan d'.mem d.n 0:=by
 unfold dimErr at hd ⊢
 rw [e1,e2,e3]
 by_cases a1:nameErr d.name≠0
 ·rw [if_pos a1] at hd;cases hd
 rw [if_neg a1] at hd ⊢
 by_cases a2:d.solve<0∨9<d.solve
 ·rw [if_pos a2] at hd;cases hd
 rw [if_neg a2] at hd ⊢
 by_cases a3:12<d.n
 ·rw [if_pos a3] at hd;cases hd
 rw [if_neg a3] at hd ⊢
 by_cases a4:d.n=0
 ·rw [if_pos a4] at hd;cases hd
 rw [if_neg a4]
theorem ren_long {d:Dm} {i:Nat} {nm:ByteArray} (hd:(dimErr d).2=0) (hi:i<d.n) (hz:renE d i nm=0) (hf:foE d.mem (d.mem i).name nm d.n≠0):(dimErr (renD d i nm)).2=4:=by
 have hex:∃ j,j<d.n∧100<(refT (d.mem i).name nm (d.mem j).formula).size:=by
  unfold foE at hf
  by_cases h:(List.range d.n).any (fun j=>decide (100<(refT (d.mem i).name nm (d.mem j).formula).size))=true
  ·obtain ⟨j,hj,hx⟩:=List.any_eq_true.1 h
   exact ⟨j,List.mem_range.1 hj,by simpa using hx⟩
  ·rw [if_neg h] at hf;exact absurd rfl hf
 obtain ⟨m,hm1,hm2,hm3⟩:∃ m,m<d.n∧100<(refT (d.mem i).name nm (d.mem m).formula).size∧∀ j,j<m→¬ 100<(refT (d.mem i).name nm (d.mem j).formula).size:=by
  obtain ⟨j,hj,hx⟩:=hex
  induction j using Nat.strongRecOn with
  | ind j ih =>
   by_cases h:∃ a,a<j∧100<(refT (d.mem i).name nm (d.mem a).formula).size
   ·obtain ⟨a,ha,hb⟩:=h
    exact ih a ha (by omega) hb
   ·exact ⟨j,hj,hx,fun a ha hb=>h ⟨a,ha,hb⟩⟩
 have h1:memErr (renD d i nm).mem m=4:=by rw [ren_mem hd hi hz hm1,if_pos hm2]
 have hs:=scan_first (M:=(renD d i nm).mem) d.n 0 (Nat.zero_le _) (by omega:m<0+d.n) (fun j _ hj=>by rw [ren_mem hd hi hz (by omega),if_neg (hm3 j hj)]) (by rw [h1];decide)
 rw [h1] at hs
 rw [dim_scanned (d':=renD d i nm) hd rfl rfl rfl];exact hs
theorem dc_ch {D:Nat→Dm} {n:Nat} {l:List En} {c:Chg}:dcE D n l c=chE D n l c:=by
 unfold dcE chE
 by_cases hcu:cuErr D n l≠0
 ·rw [if_pos hcu,if_pos hcu]
 rw [if_neg hcu,if_neg hcu]
 by_cases hdm:c.dim<0∨(n:Int)≤c.dim
 ·rw [if_pos (Or.inr (Or.inr hdm)),if_pos hdm]
 rw [if_neg hdm]
 obtain ⟨k,hk⟩:∃ k,c.dim.toNat=k:=⟨_,rfl⟩
 unfold chD
 rw [hk]
 have hkn:k<n:=by omega
 obtain ⟨hru,hens⟩:=cu_parts (by simpa using hcu)
 have hdr:=(allErr_right (ru_parts hru).1).2 k hkn
 by_cases hw:c.what<1∨5<c.what
 ·have:cgE (D k) l k c=1:=by
   unfold cgE
   rw [if_neg (by omega)]
   split
   ·rfl
   ·rw [if_neg (by omega),if_neg (by omega),if_neg (by omega),if_neg (by omega)]
  rw [if_pos (hw.elim Or.inl fun h=>Or.inr (Or.inl h)),this];rfl
 rw [if_neg (fun h=>h.elim (fun h=>hw (Or.inl h)) fun h=>h.elim (fun h=>hw (Or.inr h)) hdm)]
 by_cases h1:c.what=1
 ·rw [if_neg fun h=>h.1 h1]
  have e1:dwE (D k) l k c=addE (D k) l k (newM c):=by unfold dwE;rw [if_pos h1]
  have e2:cgE (D k) l k c=addE (D k) l k (newM c):=by unfold cgE;rw [if_pos h1]
  rw [e1,e2]
 by_cases hmb:c.mb<0∨((D k).n:Int)≤c.mb
 ·have e2:cgE (D k) l k c=1:=by unfold cgE;rw [if_neg h1,if_pos hmb]
  rw [if_pos ⟨h1,hmb⟩,e2];rfl
 rw [if_neg fun h=>hmb h.2]
 by_cases h2:c.what=2
 ·have e1:dwE (D k) l k c=if remE (D k) c.mb.toNat≠0 then remE (D k) c.mb.toNat else (rErr (remD (D k) c.mb.toNat)).2:=by unfold dwE;rw [if_neg h1,if_pos h2]
  have e2:cgE (D k) l k c=remE (D k) c.mb.toNat:=by unfold cgE;rw [if_neg h1,if_neg hmb,if_pos h2]
  have e3:cgD (D k) c=remD (D k) c.mb.toNat:=by unfold cgD;rw [if_neg h1,if_pos h2]
  rw [e1,e2,e3]
  by_cases hr:remE (D k) c.mb.toNat≠0
  ·rw [if_pos hr,if_pos hr]
  ·rw [if_neg hr,if_neg hr]
   by_cases hb:(rErr (remD (D k) c.mb.toNat)).2≠0
   ·rw [if_pos hb]
    exact (ru_put (d':=remD (D k) c.mb.toNat) hru hkn rfl (Nat.sub_le _ _) hb).symm
   ·rw [if_neg hb]
 by_cases h3:c.what=3
 ·have e1:dwE (D k) l k c=rnE (D k) c.mb.toNat c.name:=by unfold dwE;rw [if_neg h1,if_neg h2,if_pos h3]
  have e2:cgE (D k) l k c=renE (D k) c.mb.toNat c.name:=by unfold cgE;rw [if_neg h1,if_neg hmb,if_neg h2,if_pos h3]
  have e3:cgD (D k) c=renD (D k) c.mb.toNat c.name:=by unfold cgD;rw [if_neg h1,if_neg h2,if_pos h3]
  rw [e1,e2,e3]
  unfold rnE
  by_cases hr:renE (D k) c.mb.toNat c.name≠0
  ·rw [if_pos hr,if_pos hr]
  ·rw [if_neg hr,if_neg hr]
   by_cases hf:foE (D k).mem ((D k).mem c.mb.toNat).name c.name (D k).n≠0
   ·rw [if_pos hf,(foE_le (Nat.le_refl _) hf).1]
    have hl:=ren_long hdr (by omega) (by simpa using hr) hf
    have hb:(rErr (renD (D k) c.mb.toNat c.name)).2=4:=by rw [re0 (by rw [hl];decide),hl]
    rw [ru_put (d':=renD (D k) c.mb.toNat c.name) hru hkn rfl (Nat.le_refl _) (by rw [hb];decide),hb]
   ·rw [if_neg hf]
 have e1:dwE (D k) l k c=cgE (D k) l k c:=by
  unfold dwE cgE
  rw [if_neg h1,if_neg h1,if_neg hmb,if_neg h2,if_neg h2,if_neg h3,if_neg h3]
  by_cases h4:c.what=4
  ·rw [if_pos h4,if_pos h4]
  ·rw [if_neg h4,if_neg h4,if_pos (by omega)]
 rw [e1]
theorem ch_fit {D:Nat→Dm} {n:Nat} {l:List En} {c:Chg}:chN D n l c≤4∧(∀ i,i<chN D n l c→(chD D c i).n≤12)∧(chL D n l c).length≤3000∧∀ e∈chL D n l c,e.pl.length≤4:=by
 unfold chN chL
 by_cases h:chE D n l c=0
 ·rw [if_pos h,if_pos h]
  have h0:=h
  unfold chE at h0
  by_cases a1:cuErr D n l≠0
  ·rw [if_pos a1] at h0;exact absurd h0 a1
  rw [if_neg a1] at h0
  by_cases a2:c.dim<0∨(n:Int)≤c.dim
  ·rw [if_pos a2] at h0;cases h0
  rw [if_neg a2] at h0
  by_cases a3:cgE (D c.dim.toNat) l c.dim.toNat c≠0
  ·rw [if_pos a3] at h0;exact absurd h0 a3
  rw [if_neg a3] at h0
  obtain ⟨-,g4,-,gd⟩:=allErr_some (ru_parts h0).1
  obtain ⟨hru,hens⟩:=cu_parts (by simpa using a1)
  have hpl:∀ e∈l,e.pl.length≤4:=fun e he=>by
   have:=(hens.each e he).1.len
   omega
  refine ⟨g4,fun i hi=>(gd i hi).2,?_,?_⟩
  ·unfold cgL
   split
   ·unfold remL keptL
    rw [List.length_map]
    exact Nat.le_trans (List.length_filter_le _ _) hens.few
   ·exact hens.few
  ·unfold cgL
   split
   ·intro e he
    unfold remL keptL at he
    obtain ⟨e',h1,rfl⟩:=List.mem_map.1 he
    unfold movE
    rw [List.length_set]
    exact hpl e' (List.mem_filter.1 h1).1
   ·exact hpl
 ·rw [if_neg h,if_neg h]
  exact ⟨by omega,fun i hi=>absurd hi (Nat.not_lt_zero _),by simp,fun e he=>by cases he⟩
theorem dc_fit {D:Nat→Dm} {n:Nat} {l:List En} {c:Chg} {N':Nat} {ys:List EnL} (h0:dcE D n l c=0→N'=n∧lE ys=cgL l c.dim.toNat c) (h1:dcE D n l c≠0→N'=0∧ys=[]):N'=chN D n l c∧lE ys=chL D n l c:=by
 rw [dc_ch] at h0 h1
 unfold chN chL
 by_cases h:chE D n l c=0
 ·rw [if_pos h,if_pos h];exact h0 h
 ·rw [if_neg h,if_neg h]
  obtain ⟨a,b⟩:=h1 h
  exact ⟨a,by rw [b];rfl⟩
set_option maxHeartbeats 8000000 in
theorem chtells_law (A0:Option Addr) (cap n:Nat) (D:Nat→Dm) (A:Nat→Option Addr) (C:Nat→Nat) (AE:Option Addr) (ce:Nat) (xs:List EnL) (c:Chg) (w:World) (hM:DimsV w A0 cap n D A C) (hEn:EnsV w AE ce xs) (hK:Kind0 w) (hT:TabE w) :
  Calls Tryz.prog 3 #[.agg #[.slice A0 n cap],.slice AE xs.length ce,chgV c] w fun e w'=>e=.returned (.bool true)∧Below w.heap.size w w':=by
 obtain ⟨W,hW⟩:∃ W,(w.alloc (.cells #[.slice A0 n cap] 24)).alloc (.cells #[.int .i64 c.what,.int .i64 c.dim,.int .i64 c.mb,.string c.name,.int .i64 c.tgt,.int .i64 c.sign] 27)=W:=⟨_,rfl⟩
 have hBW:Below w.heap.size w W:=by rw [←hW];go_grown
 have ho:W.heap[w.heap.size]?=some (.cells #[.slice A0 n cap] 24 (0,0)):=by rw [←hW,Below.heap_alloc _ _ _ (by simp)];exact heap_alloc_new ..
 have hc:W.heap[w.heap.size+1]?=some (.cells #[.int .i64 c.what,.int .i64 c.dim,.int .i64 c.mb,.string c.name,.int .i64 c.tgt,.int .i64 c.sign] 27 (0,0)):=by
  have:=heap_alloc_new (w.alloc (.cells #[.slice A0 n cap] 24)) (.cells #[.int .i64 c.what,.int .i64 c.dim,.int .i64 c.mb,.string c.name,.int .i64 c.tgt,.int .i64 c.sign] 27)
  rw [World.size_alloc,hW] at this
  exact this
 have HBx:Hid (∀ w',Below W.heap.size W w'→w'.cell? ⟨w.heap.size,0,none⟩=some (.slice A0 n cap)∧w'.cell? ⟨w.heap.size+1,0,none⟩=some (.int .i64 c.what)∧w'.cell? ⟨w.heap.size+1,1,none⟩=some (.int .i64 c.dim)∧w'.cell? ⟨w.heap.size+1,2,none⟩=some (.int .i64 c.mb)∧w'.cell? ⟨w.heap.size+1,3,none⟩=some (.string c.name)∧w'.cell? ⟨w.heap.size+1,4,none⟩=some (.int .i64 c.tgt)∧w'.cell? ⟨w.heap.size+1,5,none⟩=some (.int .i64 c.sign)):=fun w' hB=>by
  have h1:=(hB.block _ (Array.getElem?_eq_some_iff.1 ho).1).trans ho
  have h2:=(hB.block _ (Array.getElem?_eq_some_iff.1 hc).1).trans hc
  exact ⟨(Lib.cell_of_heap h1 0).trans rfl,(Lib.cell_of_heap h2 0).trans rfl,(Lib.cell_of_heap h2 1).trans rfl,(Lib.cell_of_heap h2 2).trans rfl,(Lib.cell_of_heap h2 3).trans rfl,(Lib.cell_of_heap h2 4).trans rfl,(Lib.cell_of_heap h2 5).trans rfl⟩
 have HBW:=hid_of hBW
 have H1:=hid_of fun w' (hB:Below w.heap.size w w')=>rchange_any A0 cap n D A C AE ce xs c w' (hM.later hB) (hEn.later hB)
 have H2:=hid_of fun w' (hB:Below w.heap.size w w')=>do_any A0 cap n D A C AE ce xs c w' (hM.later hB) (hEn.later hB) (hT.later hB)
 have HS:=hid_of fun (E:Int) w' (hB:Below w.heap.size w w')=>same_errC E w' (hK.later hB)
 obtain ⟨lx,hlx⟩:∃ lx,xs.length=lx:=⟨_,rfl⟩
 rw [hlx] at H1 H2 ⊢
 clear hM hEn hBW hK hT hlx ho hc
 unfold chgV at H1 H2 ⊢
 obtain ⟨b0,b1,b2,b3,b4,b5,b6⟩:=HBx.out W (Below.refl _ _)
 go_enter Tryz.func3,Tryz.ntmps3
 go_upto_region 1 with fail
 clear hW
 go_wp2_with fail
 refine (H1.out W HBW.out).mono ?_
 rintro e w1 ⟨A1,cap1,N1,DA,CA,Ae,ce1,ys,rfl,hz,hnz,hD1,hE1,hb1⟩
 obtain ⟨e1,e2⟩:=dc_fit hz hnz
 have HF:=hid_of (ch_fit (D:=D) (n:=n) (l:=lE xs) (c:=c))
 have HD1:Hid (DimsV w1 A1 cap1 N1 (chD D c) DA CA∧EnsV w1 Ae ce1 ys∧N1=chN D n (lE xs) c∧lE ys=chL D n (lE xs) c):=⟨hD1,hE1,e1,e2⟩
 obtain ⟨w2,hw2⟩:∃ w2,w1.alloc (.cells #[.slice A1 N1 cap1] 24)=w2:=⟨_,rfl⟩
 have hb12:Below w1.heap.size w1 w2:=by rw [←hw2];go_grown
 have hx:w2.heap[w1.heap.size]?=some (.cells #[.slice A1 N1 cap1] 24 (0,0)):=by rw [←hw2];exact heap_alloc_new ..
 have HX:=hid_of hx
 have HB1:Hid (Below W.heap.size W w2):=hb1.trans (hb12.mono hb1.size)
 rw [dc_ch]
 have h3:=HS.out (chE D n (lE xs) c)
 have H3:=hid_of h3
 have h2:=H2.out w2 (onB HBW.out HB1.out)
 obtain ⟨d0,d1,d2,d3,d4,d5,d6⟩:=HBx.out w2 HB1.out
 clear h3 hz hnz hD1 hE1 e1 e2 b0 b1 b2 b3 b4 b5 b6 hb1 hx
 obtain ⟨ly,hly⟩:∃ ly,ys.length=ly:=⟨_,rfl⟩
 have HLY:=hid_of hly
 rw [hly]
 clear hly
 unfold ChV at h2
 generalize chE D n (lE xs) c=E at h2 H3 ⊢
 go_upto_region 2 with fail
 have HB12:=hid_of hb12
 clear hw2 hb12
 go_wp2_with fail
 refine h2.mono ?_
 rintro e w3 ⟨⟨A3,cap3,DA3,CA3,Ae3,ce3,zs,rfl,hD3,hE3,hl3⟩,hb3⟩
 obtain ⟨w4,hw4⟩:∃ w4,w3.alloc (.cells #[.slice A3 (chN D n (lE xs) c) cap3] 24)=w4:=⟨_,rfl⟩
 have hb34:Below w3.heap.size w3 w4:=by rw [←hw4];go_grown
 have hy:w4.heap[w3.heap.size]?=some (.cells #[.slice A3 (chN D n (lE xs) c) cap3] 24 (0,0)):=by rw [←hw4];exact heap_alloc_new ..
 have hb24:Below w2.heap.size w2 w4:=hb3.trans (hb34.mono hb3.size)
 have hx4:w4.heap[w1.heap.size]?=some (.cells #[.slice A1 N1 cap1] 24 (0,0)):=(hb24.block _ (Array.getElem?_eq_some_iff.1 HX.out).1).trans HX.out
 have HB4:Hid (Below W.heap.size W w4):=onB HB1.out hb24
 have HBo:Hid (∀ w',Below w4.heap.size w4 w'→w'.cell? ⟨w1.heap.size,0,none⟩=some (.slice A1 N1 cap1)∧w'.cell? ⟨w3.heap.size,0,none⟩=some (.slice A3 (chN D n (lE xs) c) cap3)):=fun w' hB =>
  ⟨(Lib.cell_of_heap ((hB.block _ (Array.getElem?_eq_some_iff.1 hx4).1).trans hx4) 0).trans rfl,(Lib.cell_of_heap ((hB.block _ (Array.getElem?_eq_some_iff.1 hy).1).trans hy) 0).trans rfl⟩
 have HSO:Hid (∀ w',Below w4.heap.size w4 w'→Calls Tryz.prog 7 #[.agg #[.slice A3 (chN D n (lE xs) c) cap3],.agg #[.slice A1 N1 cap1]] w' fun e w''=>e=.returned (.bool true)∧Below w'.heap.size w' w''):=fun w' hB=>by
  have h1:=HD1.out.1
  rw [HD1.out.2.2.1] at h1 ⊢
  exact sameout_any A3 A1 cap3 cap1 _ (chD D c) DA3 CA3 DA CA w' HF.out.1 HF.out.2.1 (hD3.later (onB hb34 hB)) (h1.later (onB HB12.out (onB hb24 hB)))
 have HSE:Hid (∀ w',Below w4.heap.size w4 w'→Calls Tryz.prog 8 #[.slice Ae3 zs.length ce3,.slice Ae ly ce1] w' fun e w''=>e=.returned (.bool true)∧Below w'.heap.size w' w''):=fun w' hB=>by
  have hzl:(lE zs).length≤3000:=by rw [hl3];exact HF.out.2.2.1
  rw [lE_len] at hzl
  have:=sameents_any Ae3 Ae ce3 ce1 zs ys w' (by rw [hl3,HD1.out.2.2.2]) hzl (fun k hk=>HF.out.2.2.2 _ (by rw [←hl3];exact List.mem_map.2 ⟨_,enl_mem hk,rfl⟩)) (hE3.later (onB hb34 hB)) (HD1.out.2.1.later (onB HB12.out (onB hb24 hB)))
  rw [HLY.out] at this
  exact this
 clear h2 d0 d1 d2 d3 d4 d5 d6 hD3 hE3 hl3 hb3 hb34 hx4 hy hb24 HD1
 generalize chN D n (lE xs) c=N3 at HBo HSO hw4 ⊢
 generalize zs.length=lz at HSE ⊢
 go_upto_region 3 with fail
 clear hw4
 go_wp2_with fail
 refine (H3.out w4 (onB HBW.out HB4.out)).mono ?_
 rintro e w5 ⟨rfl,hb5⟩
 have HB5:Hid (Below w4.heap.size w4 w5):=hb5
 obtain ⟨k1,k2⟩:=HBo.out w5 hb5
 have h6:=HSO.out w5 hb5
 clear hb5 HSO HBo
 go_wp2_with fail
 refine h6.mono ?_
 rintro e w6 ⟨rfl,hb6⟩
 have HB6:Hid (Below w4.heap.size w4 w6):=onB HB5.out hb6
 have h7:=HSE.out w6 HB6.out
 clear hb6 h6 k1 k2 HB5 HSE
 go_wp2_with fail
 refine h7.mono ?_
 rintro e w7 ⟨rfl,hb7⟩
 have HB7:Hid (Below w.heap.size w w7):=onB HBW.out (onB HB4.out (onB HB6.out hb7))
 clear hb7 h7 HB6
 go_wp2_with fail
 go_ret
 exact ⟨rfl,HB7.out⟩
end Go.Proofs.YtfldgghobddgkaaGreatDoor
