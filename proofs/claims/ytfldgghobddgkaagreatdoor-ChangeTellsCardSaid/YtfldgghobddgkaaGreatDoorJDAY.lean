/-
  What member of package rules answers, in whatever memory.
-/
import Derived.LaidEql
import Derived.Stop.Asserts
import Derived.RowKitTokens
import Derived.Test.YtfldgghobddgkaaGreatDoorJDAX
namespace Go.Proofs.YtfldgghobddgkaaGreatDoor
open Go.ChangeShapes Go.WideShapes Go.ChangeAt Go.RowKit
set_option maxRecDepth 20000
theorem MemsAt.grown {w w':World} {b o n:Nat} {M:Nat→Mem} {r:Option Nat} (h:MemsAt w b o n M) (hG:w.grownBy w' r) (hr:some b≠r):MemsAt w' b o n M:=by
 have hb:w'.heap[b]?=w.heap[b]?:=hG.block b h.1 hr
 have hc:∀ k,w'.cell? ⟨b,k,none⟩=w.cell? ⟨b,k,none⟩:=fun k=>World.cell?_of_block (a:=⟨b,k,none⟩) hb
 refine ⟨Nat.lt_of_lt_of_le h.1 hG.size,fun i hi=>?_⟩
 obtain ⟨h0,h1,h2,h3⟩:=h.2 i hi
 exact ⟨(hc _).trans h0,(hc _).trans h1,(hc _).trans h2,(hc _).trans h3⟩
def noSg (d:Dm) (k:Int):Bool:=decide ((d.mem k.toNat).sign=0)
theorem noSg_sg (d:Dm):(fun x => !noSg d x)=sgB d:=by
 funext x
 unfold noSg sgB
 by_cases h:(d.mem x.toNat).sign=0 <;> simp [h]
theorem ent_sign (args:Array Value) (w:World):(callFunc 111 args).run Tryz.prog w=.ok (.enter 111 args) w:=by simp [go_sem]
theorem rsign_any (d:Dm) (b o cap q k:Nat) (w:World) (hk:k<d.n) (hn:d.n≤12) (hM:MemsAt w b o d.n d.mem) (hc:w.cell? ⟨q,2,none⟩=some (.slice (some ⟨b,o,none⟩) d.n cap)) :
  Calls Tryz.prog 111 #[.int .i64 k,.pointer (some ⟨q,0,none⟩)] w fun e w'=>e=.returned (.bool (noSg d k))∧Below w.heap.size w w':=by
 obtain ⟨-,-,h2,-⟩:=hM.2 k hk
 have hki:(k:Int)<(d.n:Int):=by omega
 have hni:(d.n:Int)≤12:=by omega
 unfold noSg
 rw [Int.toNat_natCast]
 generalize (d.mem k).sign=sg at h2 ⊢
 generalize d.n=n at *
 clear hM
 go_enter Tryz.func111,Tryz.ntmps111
 go_wp2_with fail
 go_ret
 exact ⟨by by_cases h:sg=0 <;> simp [h],Below.refl _ _⟩
theorem memErr_form {M:Nat→Mem} {i:Nat} (h:memErr M i=0):(M i).formula.size≤100:=by
 unfold memErr at h
 split at h
 ·simp at h
 ·split at h
  ·simp at h
  ·split at h
   ·simp at h
   ·split at h
    ·simp at h
    ·split at h
     ·simp at h
     ·split at h
      ·simp at h
      ·omega
theorem rf_mem {d:Dm} (hd:(dimErr d).2=0) {i:Nat} (hf:(d.mem i).formula.size≠0):rfE d (d.mem i).formula=mErr d i∧rfL d (d.mem i).formula=lst (mErr d i) (mNd d i):=by
 have e:rfE d (d.mem i).formula=mErr d i:=by
  unfold rfE mErr nmsOf
  rw [if_neg hf]
 refine ⟨e,?_⟩
 unfold rfL lst
 rw [e]
 by_cases h:mErr d i=0
 ·rw [if_pos h,if_pos h]
  refine sort_need hd hf h ?_
  unfold mErr at h
  rw [if_neg hf] at h
  split at h
  ·rename_i h1;exact absurd h h1
  ·rename_i h1;simpa using h1
 ·rw [if_neg h,if_neg h]
set_option maxHeartbeats 4000000 in
theorem rmember_any (d:Dm) (A:Option Addr) (cap i:Nat) (w:World) (hd:(dimErr d).2=0) (hi:i<d.n) (hM:MemsV w A cap d.n d.mem) :
  Calls Tryz.prog 85 #[dimV d A cap,.int .i64 i] w fun e w'=>(∃ A' c',e=.returned (.tuple #[.slice A' (lst (mErr d i) (mNd d i)).length c',errV (mErr d i)])∧IntT w' A' c' (lst (mErr d i) (mNd d i)))∧Below w.heap.size w w':=by
 obtain ⟨-,-,hd2,hall⟩:=dimErr_right hd
 obtain ⟨hcap,h0 | ⟨b,o,rfl,hMs⟩⟩:=hM
 ·omega
 have hB0:=ownDim_below w d (some ⟨b,o,none⟩) cap 41
 have hS:=ownDim_size w d (some ⟨b,o,none⟩) cap 41
 obtain ⟨o0,o1,o2⟩:=ownDim_at w d (some ⟨b,o,none⟩) cap 41
 unfold dimV
 obtain ⟨W,hW⟩:∃ W,ownDim w d (some ⟨b,o,none⟩) cap 41=W:=⟨_,rfl⟩
 rw [hW] at hB0 hS o0 o1 o2
 unfold ownDim at hW
 have hMW:=hMs.later hB0
 obtain ⟨-,-,-,c3⟩:=hMW.2 i hi
 have hii:(i:Int)<(d.n:Int):=by omega
 have hni:(d.n:Int)≤12:=by omega
 have hq:w.heap.size<W.heap.size:=by omega
 have HB0:Hid (Below w.heap.size w W):=hB0
 by_cases hf:(d.mem i).formula.size=0
 ·have hf':(d.mem i).formula.toList.isEmpty=true:=by rw [empty_same];simpa using hf
  have hme:mErr d i=0:=by unfold mErr;rw [if_pos hf]
  rw [hme,lst_ok rfl,errV_zero]
  have hpa:=parts_own d (some ⟨b,o,none⟩) cap i W hd hi ⟨hcap,Or.inr ⟨b,o,rfl,hMW⟩⟩
  unfold dimV at hpa
  have HNd:Hid ((partsOf d.mem d.n i).filter (sgB d)=mNd d i):=parts_need hf
  have HPl:Hid ((partsOf d.mem d.n i).length≤12):=Nat.le_trans (selTo_len _ _) hd2
  have HPm:Hid (∀ x∈partsOf d.mem d.n i,∃ k:Nat,x=(k:Int)∧k<d.n):=fun x hx=>by
   obtain ⟨m,h1,h2,-⟩:=selTo_mem x hx
   exact ⟨m,h1,h2⟩
  have HMW:Hid (MemsAt W b o d.n d.mem):=hMW
  have HO2:Hid (W.cell? ⟨w.heap.size,2,none⟩=some (.slice (some ⟨b,o,none⟩) d.n cap)):=o2
  generalize (d.mem i).formula=fm at c3 hf'
  clear hMs hall hf hme
  go_enter Tryz.func85,Tryz.ntmps85
  go_wp2_with fail
  refine hpa.mono ?_
  rintro e w1 ⟨⟨v1,rfl,hO1⟩,hb1⟩
  have HB1:Hid (Below W.heap.size W w1):=hb1
  have hq1:w.heap.size<w1.heap.size:=by have:=hb1.size;omega
  have hdel:=delf_any 111 #[.pointer (some ⟨w.heap.size,0,none⟩)] (noSg d) ent_sign W.heap.size v1 (partsOf d.mem d.n i) w1 (by have:=HPl.out;omega) hO1 fun x w' hx hG=>by
   obtain ⟨k,rfl,hk⟩:=HPm.out x hx
   have hown:∀ j,v1.ownBlock=some j→W.heap.size≤j:=fun j hj=>(hO1.lt j hj).1
   have hbw:b<W.heap.size:=HMW.out.1
   have hne:∀ j,j<W.heap.size→some j≠v1.ownBlock:=fun j hj e=>by have:=hown j e.symm;omega
   refine rsign_any d b o cap w.heap.size k w' hk hd2 ((HMW.out.later hb1).grown hG (hne b hbw)) ?_
   have h1:w1.cell? ⟨w.heap.size,2,none⟩=some (.slice (some ⟨b,o,none⟩) d.n cap):=(hb1.cell (p:=⟨w.heap.size,2,none⟩) hq).trans HO2.out
   rw [World.cell?_of_block (a:=⟨w.heap.size,2,none⟩) (hG.block w.heap.size hq1 (hne _ hq))]
   exact h1
  rw [noSg_sg,HNd.out] at hdel
  have HBd:Hid (∀ w',w1.grownBy w' v1.ownBlock→Below w.heap.size w w'):=fun w' hG=>(onB HB0.out hb1).grown hG (by have:=HB0.out.size;have:=hb1.size;omega) fun j hj=>by have:=(hO1.lt j hj).1;omega
  clear hO1 hb1 hpa
  go_wp2_with fail
  refine hdel.mono ?_
  rintro e w2 ⟨⟨A2,c2,rfl,hT⟩,hG⟩
  have HT:Hid (IntT w2 A2 c2 (mNd d i)):=hT
  have HB2:Hid (Below w.heap.size w w2):=HBd.out w2 hG
  clear hT hG hdel
  go_wp2_with fail
  go_ret2
  exact ⟨⟨A2,c2,rfl,HT.out⟩,HB2.out⟩
 ·have hf':(d.mem i).formula.toList.isEmpty=false:=by rw [empty_same];simpa using hf
  obtain ⟨e1,e2⟩:=rf_mem hd hf
  have hIs:IsF d w.heap.size W:=fun s w' hB=>is_any d b o cap w.heap.size s w' hd2 (hMW.later hB) (Nat.lt_of_lt_of_le hq hB.size) ((hB.cell (p:=⟨w.heap.size,2,none⟩) hq).trans o2)
  have hrf:=refs_any d w.heap.size (d.mem i).formula W (memErr_form (hall i hi)) hIs
  rw [←e2,←e1]
  unfold isV at hrf
  obtain ⟨fm,hfm⟩:∃ fm,(d.mem i).formula=fm:=⟨_,rfl⟩
  rw [hfm] at c3 hf' hrf ⊢
  generalize rfL d fm=L at hrf ⊢
  generalize errV (rfE d fm)=ev at hrf ⊢
  clear hMs hall hf hIs hMW e1 e2 hfm
  go_enter Tryz.func85,Tryz.ntmps85
  go_wp2_with fail
  refine hrf.mono ?_
  rintro e w1 ⟨⟨A1,c1,rfl,hT⟩,hb1⟩
  have HT:Hid (IntT w1 A1 c1 L):=hT
  clear hT hrf
  go_wp2_with fail
  go_ret2
  exact ⟨⟨A1,c1,rfl,HT.out⟩,onB HB0.out hb1⟩
theorem keep2 {W w':World} {q b o1:Nat} {u v:Value} (h:q<W.heap.size∧b<W.heap.size∧W.cell? ⟨q,0,none⟩=some u∧W.cell? ⟨b,o1,none⟩=some v) (hB:Below W.heap.size W w'):Below W.heap.size W w'∧w'.cell? ⟨q,0,none⟩=some u∧w'.cell? ⟨b,o1,none⟩=some v :=
 ⟨hB,(hB.cell (p:=⟨q,0,none⟩) h.1).trans h.2.2.1,(hB.cell (p:=⟨b,o1,none⟩) h.2.1).trans h.2.2.2⟩
theorem keepL {W w':World} {b o1 o2:Nat} {u v:Value} (h:b<W.heap.size∧W.cell? ⟨b,o1,none⟩=some u∧W.cell? ⟨b,o2,none⟩=some v) (hB:Below W.heap.size W w'):Below W.heap.size W w'∧w'.cell? ⟨b,o1,none⟩=some u∧w'.cell? ⟨b,o2,none⟩=some v :=
 ⟨hB,(hB.cell (p:=⟨b,o1,none⟩) h.1).trans h.2.1,(hB.cell (p:=⟨b,o2,none⟩) h.1).trans h.2.2⟩
set_option maxHeartbeats 16000000 in
theorem rentries_any (A0:Option Addr) (cap n:Nat) (D:Nat→Dm) (A:Nat→Option Addr) (C:Nat→Nat) (AE:Option Addr) (ce:Nat) (xs:List EnL) (w:World) (hM:DimsV w A0 cap n D A C) (hE:EnsV w AE ce xs) :
  Calls Tryz.prog 28 #[.agg #[.slice A0 n cap],.slice AE xs.length ce] w fun r w'=>r=.returned (.int .i64 (entsErr D n (lE xs)))∧Below w.heap.size w w':=by
 have hB0:=ownOut_below w A0 n cap 24
 have h:=rright_any A0 cap n D A C (ownOut w A0 n cap 24) (hM.later hB0)
 have HB0:Hid (Below w.heap.size w (ownOut w A0 n cap 24)):=hB0
 have HM:Hid (DimsV w A0 cap n D A C):=hM
 have HE:Hid (EnsV w AE ce xs):=hE
 clear hM hB0
 by_cases hR:(allErr D n).2.2=0
 ·have HR:Hid ((allErr D n).2.2=0):=hR
  have HV:Hid (entsErr D n (lE xs)=entFrom D n (qOf (lE xs) 0) ((lE xs).drop 0)):=ents_in _ hR
  rw [hR] at h
  obtain ⟨N,hN⟩:∃ N,xs.length=N:=⟨_,rfl⟩
  have HN:Hid (xs.length=N):=hN
  have hNb:(N:Int)≤9223372036854775807:=by have h1:=hE.1;have h2:=hE.2.1;omega
  rw [hN]
  generalize entsErr D n (lE xs)=RES at HV
  clear hR hN hE
  go_enter Tryz.func28,Tryz.ntmps28
  go_wp2_with fail
  refine h.mono ?_
  rintro e w1 ⟨rfl,hb1⟩
  have hB:Below w.heap.size w w1:=onB HB0.out hb1
  have hz:w.heap.size<w1.heap.size:=by have:=hb1.size;rw [ownOut_size] at this;omega
  have h2:w1.cell? ⟨w.heap.size,0,none⟩=some (.slice A0 n cap):=(hb1.cell (p:=⟨w.heap.size,0,none⟩) (by show w.heap.size<_;rw [ownOut_size];omega)).trans (ownOut_at ..)
  have HM1:Hid (DimsV w1 A0 cap n D A C):=HM.out.later hB
  have HE1:Hid (EnsV w1 AE ce xs):=HE.out.later hB
  have HB:Hid (Below w.heap.size w w1):=hB
  clear hb1 h hB HM HE HB0
  go_wp2_with fail
  go_loopg [6] N (fun g s6 wr => ∃ (k:Nat),k≤N∧g=N-k∧s6=.int .i64 k∧Hid (entFrom D n (qOf (lE xs) k) ((lE xs).drop k)=entFrom D n (qOf (lE xs) 0) ((lE xs).drop 0))∧Hid (∀ j,j<k→entOne D n ((lE xs).getD j noEn)=0)∧Below w1.heap.size w1 wr)
  case atStart=>exact ⟨0,Nat.zero_le _,rfl,rfl,(rfl:entFrom D n (qOf (lE xs) 0) ((lE xs).drop 0)=entFrom D n (qOf (lE xs) 0) ((lE xs).drop 0)),fun j hj=>absurd hj (Nat.not_lt_zero _),Below.refl _ _⟩
  case round =>
   obtain ⟨k,hk,rfl,rfl,HF,HO,hBw⟩:=hrel
   have HBw:Hid (Below w1.heap.size w1 wr):=hBw
   by_cases hlt:k<N
   ·have hkx:k<xs.length:=by rw [HN.out];exact hlt
    have hki:(k:Int)<(N:Int):=by omega
    have hk1:(k:Int)+1≤9223372036854775807:=by omega
    obtain ⟨-,-,h0 | ⟨b,o,rfl,hEs⟩⟩:=HE1.out.later hBw
    ·have:=HN.out;rw [h0] at this;simp at this;omega
    obtain ⟨c1,c2⟩:=hEs.at hkx
    have c0:wr.cell? ⟨w.heap.size,0,none⟩=some (.slice A0 n cap):=(hBw.cell (p:=⟨w.heap.size,0,none⟩) hz).trans h2
    have hzr:w.heap.size<wr.heap.size:=Nat.lt_of_lt_of_le hz hBw.size
    have hbb:=hEs.1
    have HMr:Hid (DimsV wr A0 cap n D A C):=HM1.out.later hBw
    have HEs:Hid (EnsAt wr b o xs):=hEs
    have HPl:Hid (∀ w',Below wr.heap.size wr w'→Calls Tryz.prog 51 #[.agg #[.slice A0 n cap],.slice (xs.getD k noL).A (xs.getD k noL).e.pl.length (xs.getD k noL).c] w' fun e w''=>e=.returned (.int .i64 (shapeErr D n (xs.getD k noL).e.pl))∧Below w'.heap.size w' w''):=fun w' hw'=>rplace_any A0 cap n D A C _ _ _ w' HR.out (HMr.out.later hw') ((HEs.out.pl hkx).later hw')
    have HLf:Hid (shapeErr D n (xs.getD k noL).e.pl=0→∀ w',Below wr.heap.size wr w'→Calls Tryz.prog 52 #[.agg #[.slice A0 n cap],.slice (xs.getD k noL).A (xs.getD k noL).e.pl.length (xs.getD k noL).c] w' fun e w''=>e=.returned (.bool (leafV D n (xs.getD k noL).e.pl))∧Below w'.heap.size w' w''):=fun hs w' hw'=>rleafplace_any A0 cap n D A C _ _ _ w' (inO_of (by rw [pe1 HR.out];exact hs)) (HMr.out.later hw') ((HEs.out.pl hkx).later hw')
    have HOne:Hid (entOne D n (xs.getD k noL).e=if shapeErr D n (xs.getD k noL).e.pl≠0 then shapeErr D n (xs.getD k noL).e.pl else if leafV D n (xs.getD k noL).e.pl=false then 6 else if numOk (xs.getD k noL).e.n=false then 1 else 0):=rfl
    have HBad:Hid (entOne D n (xs.getD k noL).e≠0→RES=entOne D n (xs.getD k noL).e):=fun he=>by rw [HV.out,←HF.out,ent_bad (by rw [lE_len];exact hkx) (by rw [lE_at];exact he),lE_at]
    have HOn:Hid (entOne D n (xs.getD k noL).e=0→∀ t,aheadOk (qOf (lE xs) k) (xs.getD k noL).e.pl=t→(t=false→RES=7)∧(t=true→entFrom D n (qOf (lE xs) (k+1)) ((lE xs).drop (k+1))=entFrom D n (qOf (lE xs) 0) ((lE xs).drop 0))):=fun he t ht=>by
     rw [←lE_at] at he ht
     refine ⟨fun h1=>?_,fun h1=>?_⟩
     ·rw [HV.out,←HF.out,ent_clash (by rw [lE_len];exact hkx) he (by rw [ht];exact h1)]
     ·rw [←ent_on (by rw [lE_len];exact hkx) he (by rw [ht];exact h1)];exact HF.out
    have HK0:Hid (entOne D n (xs.getD k noL).e=0→entOne D n ((lE xs).getD k noEn)=0):=fun he=>by rw [lE_at];exact he
    have HPrev:Hid (∀ j,k=j+1→entOne D n (xs.getD k noL).e=0→(∃ A2 m2 k2,wr.cell? ⟨b,o+j*2,none⟩=some (.slice A2 m2 k2)∧∀ w',Below wr.heap.size wr w'→Calls Tryz.prog 53 #[.slice A2 m2 k2,.slice (xs.getD k noL).A (xs.getD k noL).e.pl.length (xs.getD k noL).c] w' fun e w''=>e=.returned (.bool (aheadOk (qOf (lE xs) k) (xs.getD k noL).e.pl))∧Below w'.heap.size w' w'')):=fun j hj he=>by
     have hjx:j<xs.length:=by omega
     have h3:=entOne_right HR.out he
     have h4:=entOne_right HR.out (HO.out j (by omega))
     rw [lE_at] at h4
     refine ⟨_,_,_,(HEs.out.at hjx).1,fun w' hw'=>?_⟩
     have h5:=rless_any _ _ _ _ _ _ w' (inO_short h4.1) (inO_short h3.1) ((HEs.out.pl hjx).later hw') ((HEs.out.pl hkx).later hw')
     have h6:aheadOk (qOf (lE xs) k) (xs.getD k noL).e.pl=lessL (xs.getD j noL).e.pl (xs.getD k noL).e.pl:=by rw [hj,←lE_at xs j];rfl
     rw [h6]
     exact h5
    have HQ0:Hid (k=0→aheadOk (qOf (lE xs) k) (xs.getD k noL).e.pl=true):=fun h0=>by rw [h0];rfl
    clear hEs hBw
    generalize aheadOk (qOf (lE xs) k) (xs.getD k noL).e.pl=tA at HOn HPrev HQ0
    generalize entOne D n (xs.getD k noL).e=E1 at HOne HBad HOn HK0 HPrev
    generalize shapeErr D n (xs.getD k noL).e.pl=SE at HPl HLf HOne
    generalize leafV D n (xs.getD k noL).e.pl=lf at HLf HOne
    generalize (xs.getD k noL).A=A1 at c1 HPl HLf HPrev
    generalize (xs.getD k noL).c=k1 at c1 HPl HLf HPrev
    generalize (xs.getD k noL).e.n=n1 at c2 HOne
    generalize (xs.getD k noL).e.pl.length=m1 at c1 HPl HLf HPrev
    have HC0:Hid (w.heap.size<wr.heap.size∧b<wr.heap.size∧wr.cell? ⟨w.heap.size,0,none⟩=some (.slice A0 n cap)∧wr.cell? ⟨b,o+k*2,none⟩=some (.slice A1 m1 k1)):=⟨hzr,hbb,c0,c1⟩
    have HC2:Hid (wr.cell? ⟨b,o+k*2+1,none⟩=some (.int .i64 n1)):=c2
    clear c0 c1 c2
    go_wp2_with fail
    go_cut [5] (fun s5 wx=>s5=.int .i64 SE∧Below wr.heap.size wr wx)
    case first=>as_aux_lemma =>
     go_region_held3 (fun w'=>Below wr.heap.size wr w'∧w'.cell? ⟨w.heap.size,0,none⟩=some (.slice A0 n cap)∧w'.cell? ⟨b,o+k*2,none⟩=some (.slice A1 m1 k1))
      ((refine keep2 HC0.out ?_;go_grown;done))
      (first | (go_at_call 51;refine (HPl.out _ (by go_grown)).mono ?_;rintro e w3 ⟨rfl,hb3⟩;have hN3:=onB (W0:=wr) (by go_grown) hb3;have hy3:=hN3.size;clear hb3))
     all_goals go_wp2_with fail
     all_goals go_meet
     all_goals exact ⟨rfl,by go_grown⟩
    case rest=>as_aux_lemma =>
    obtain ⟨rfl,hb⟩:=hcut
    obtain ⟨w2,rfl⟩:∃ w2:World,w2=wc:=⟨_,rfl⟩
    have HB2:Hid (Below wr.heap.size wr w2):=hb
    clear hb
    by_cases hSE:SE=0
    ·have HLf2:=HLf.out hSE
     have HLf3:Hid (∀ w',Below wr.heap.size wr w'→Calls Tryz.prog 52 #[.agg #[.slice A0 n cap],.slice A1 m1 k1] w' fun e w''=>e=.returned (.bool lf)∧Below w'.heap.size w' w''):=HLf2
     have HC3:Hid (w.heap.size<w2.heap.size∧b<w2.heap.size∧w2.cell? ⟨w.heap.size,0,none⟩=some (.slice A0 n cap)∧w2.cell? ⟨b,o+k*2,none⟩=some (.slice A1 m1 k1)):=⟨Nat.lt_of_lt_of_le HC0.out.1 HB2.out.size,Nat.lt_of_lt_of_le HC0.out.2.1 HB2.out.size,(keep2 HC0.out HB2.out).2.1,(keep2 HC0.out HB2.out).2.2⟩
     have hOne2:E1=if lf=false then 6 else if numOk n1=false then 1 else 0:=by rw [HOne.out,if_neg (by simpa using hSE)]
     have HOne2:Hid (E1=if lf=false then 6 else if numOk n1=false then 1 else 0):=hOne2
     subst hSE
     clear hOne2 HLf2
     go_wp2_with fail
     go_cut [7] (fun s7 wx=>s7=.bool lf∧Below w2.heap.size w2 wx)
     case first=>as_aux_lemma =>
      go_region_held3 (fun w'=>Below w2.heap.size w2 w'∧w'.cell? ⟨w.heap.size,0,none⟩=some (.slice A0 n cap)∧w'.cell? ⟨b,o+k*2,none⟩=some (.slice A1 m1 k1))
       ((refine keep2 HC3.out ?_;go_grown;done))
       (first | (go_at_call 52;refine (HLf3.out _ (onB HB2.out (by go_grown))).mono ?_;rintro e w3 ⟨rfl,hb3⟩;have hN3:=onB (W0:=w2) (by go_grown) hb3;have hy3:=hN3.size;clear hb3))
      all_goals go_wp2_with fail
      all_goals go_meet
      all_goals exact ⟨rfl,by go_grown⟩
     case rest=>as_aux_lemma =>
     obtain ⟨rfl,hb⟩:=hcut
     obtain ⟨w3,rfl⟩:∃ w3:World,w3=wc:=⟨_,rfl⟩
     have HB3:Hid (Below wr.heap.size wr w3):=onB HB2.out hb
     clear hb HC3 HLf3 HB2
     cases lf
     ·have HRes:Hid (RES=6):=by
       have e6:E1=6:=by rw [HOne2.out];rfl
       show _=_
       rw [HBad.out (by rw [e6];decide),e6]
      go_wp2_with fail
      go_ret
      rw [HRes.out]
      exact ⟨rfl,onB HB.out (onB HBw.out HB3.out)⟩
     ·have c3:w3.cell? ⟨b,o+k*2+1,none⟩=some (.int .i64 n1):=(HB3.out.cell (p:=⟨b,o+k*2+1,none⟩) hbb).trans HC2.out
      by_cases hlo:n1 < -1000000
      ·have HRes:Hid (RES=1):=by
        have e1:E1=1:=by rw [HOne2.out,if_neg (by decide),if_pos (by simp [numOk];omega)]
        show _=_
        rw [HBad.out (by rw [e1];decide),e1]
       go_wp2_with fail
       go_ret
       rw [HRes.out]
       exact ⟨rfl,onB HB.out (onB HBw.out HB3.out)⟩
      by_cases hhi:1000000<n1
      ·have HRes:Hid (RES=1):=by
        have e1:E1=1:=by rw [HOne2.out,if_neg (by decide),if_pos (by simp [numOk];omega)]
        show _=_
        rw [HBad.out (by rw [e1];decide),e1]
       go_wp2_with fail
       go_ret
       rw [HRes.out]
       exact ⟨rfl,onB HB.out (onB HBw.out HB3.out)⟩
      have e0:E1=0:=by rw [HOne2.out,if_neg (by decide),if_neg (by simp [numOk];omega)]
      have HT:Hid ((tA=false→RES=7)∧(tA=true→entFrom D n (qOf (lE xs) (k+1)) ((lE xs).drop (k+1))=entFrom D n (qOf (lE xs) 0) ((lE xs).drop 0))):=HOn.out e0 tA rfl
      have HKk:Hid (entOne D n ((lE xs).getD k noEn)=0):=HK0.out e0
      have HP2:Hid (∀ j,k=j+1→(∃ A2 m2 k2,wr.cell? ⟨b,o+j*2,none⟩=some (.slice A2 m2 k2)∧∀ w',Below wr.heap.size wr w'→Calls Tryz.prog 53 #[.slice A2 m2 k2,.slice A1 m1 k1] w' fun e w''=>e=.returned (.bool tA)∧Below w'.heap.size w' w'')):=fun j hj=>HPrev.out j hj e0
      clear HOne HOne2 HBad HOn HK0 HPrev HLf HPl e0
      rcases Nat.eq_zero_or_pos k with hk0 | hk0
      ·have HTr:Hid (entFrom D n (qOf (lE xs) (k+1)) ((lE xs).drop (k+1))=entFrom D n (qOf (lE xs) 0) ((lE xs).drop 0)):=HT.out.2 (HQ0.out hk0)
       subst hk0
       simp only [Nat.zero_mul,Nat.add_zero] at c3
       clear HP2 HQ0 HT HO HF
       go_wp2_with fail
       go_quiet (fail)
       go_wp2_with fail
       go_roundg (N-(0+1))
       case measure=>omega
       case rel =>
        refine ⟨0+1,by omega,rfl,by go_num,HTr.out,fun j hj=>?_,below_drewN (onB HBw.out HB3.out) _⟩
        have:j=0:=by omega
        rw [this]
        exact HKk.out
      ·obtain ⟨j,hj⟩:∃ j,k=j+1:=⟨k-1,by omega⟩
       obtain ⟨A2,m2,k2,hcell,hcalls⟩:=HP2.out j hj
       have HLs:Hid (∀ w',Below wr.heap.size wr w'→Calls Tryz.prog 53 #[.slice A2 m2 k2,.slice A1 m1 k1] w' fun e w''=>e=.returned (.bool tA)∧Below w'.heap.size w' w''):=hcalls
       have HC4:Hid (b<w3.heap.size∧w3.cell? ⟨b,o+j*2,none⟩=some (.slice A2 m2 k2)∧w3.cell? ⟨b,o+k*2,none⟩=some (.slice A1 m1 k1)):=⟨Nat.lt_of_lt_of_le hbb HB3.out.size,(HB3.out.cell (p:=⟨b,o+j*2,none⟩) hbb).trans hcell,(HB3.out.cell (p:=⟨b,o+k*2,none⟩) hbb).trans HC0.out.2.2.2⟩
       have hwr:IntKind.i64.wrap ((k:Int)-1)=(j:Int):=by rw [IntKind.wrap_i64];omega
       have hkz:((k:Int) == 0)=false:=by simp;omega
       have hkz' : ¬ ((k:Int)=0):=by omega
       have hjN:(j:Int)<(N:Int):=by omega
       clear hj hcell hcalls HP2 hk0
       go_wp2_with fail
       go_cut [8] (fun s8 wx=>s8=.bool tA∧Below w3.heap.size w3 wx)
       case first=>as_aux_lemma =>
        go_region_held3 (fun w'=>Below w3.heap.size w3 w'∧w'.cell? ⟨b,o+j*2,none⟩=some (.slice A2 m2 k2)∧w'.cell? ⟨b,o+k*2,none⟩=some (.slice A1 m1 k1))
         ((refine keepL HC4.out ?_;go_grown;done))
         (first | (go_at_call 53;refine (HLs.out _ (onB HB3.out (by go_grown))).mono ?_;rintro e w4 ⟨rfl,hb4⟩;have hN4:=onB (W0:=w3) (by go_grown) hb4;have hy4:=hN4.size;clear hb4))
        all_goals go_wp2_with fail
        all_goals go_meet
        all_goals exact ⟨rfl,by go_grown⟩
       case rest=>as_aux_lemma =>
       obtain ⟨rfl,hb⟩:=hcut
       obtain ⟨w4,rfl⟩:∃ w4:World,w4=wc:=⟨_,rfl⟩
       have HB4:Hid (Below wr.heap.size wr w4):=onB HB3.out hb
       clear hb HC4 HLs hwr hkz hkz' hjN c3
       cases tA
       ·have HRes:Hid (RES=7):=HT.out.1 rfl
        go_wp2_with fail
        go_ret
        rw [HRes.out]
        exact ⟨rfl,onB HB.out (onB HBw.out HB4.out)⟩
       ·have HTr:Hid (entFrom D n (qOf (lE xs) (k+1)) ((lE xs).drop (k+1))=entFrom D n (qOf (lE xs) 0) ((lE xs).drop 0)):=HT.out.2 rfl
        go_wp2_with fail
        go_roundg (N-(k+1))
        case measure=>omega
        case rel =>
         refine ⟨k+1,by omega,rfl,by go_num,HTr.out,fun i hi=>?_,onB HBw.out HB4.out⟩
         rcases Nat.lt_succ_iff_lt_or_eq.1 hi with h1 | rfl
         ·exact HO.out i h1
         ·exact HKk.out
    ·have HRes:Hid (RES=SE):=by
      have e1:E1=SE:=by rw [HOne.out,if_pos (by simpa using hSE)]
      show _=_
      rw [HBad.out (by rw [e1];exact hSE),e1]
     have hSE':(SE != 0)=true:=by simpa using hSE
     clear HLf HPl HOne HBad HOn HK0 HPrev hSE HC0 HC2 HEs HMr HE1 HM1 HO HF HQ0 hki hk1 hzr hbb
     go_wp2_with fail
     go_ret
     rw [HRes.out]
     exact ⟨rfl,onB HB.out (onB HBw.out HB2.out)⟩
   ·have hke:k=N:=by omega
    subst hke
    have HRes:Hid (RES=0):=by show _=_;rw [HV.out,←HF.out,ent_end (by rw [lE_len,HN.out];exact Nat.le_refl _)]
    clear hBw
    go_wp2_with fail
    go_ret
    rw [HRes.out]
    exact ⟨rfl,onB HB.out HBw.out⟩
 ·have HV:Hid (entsErr D n (lE xs)=(allErr D n).2.2):=ents_bad _ hR
  have hR':((allErr D n).2.2 == 0)=false:=by simpa using hR
  generalize entsErr D n (lE xs)=RES at HV
  generalize (allErr D n).2.2=E at h HV hR hR'
  generalize xs.length=N
  clear hE HM HE
  go_enter Tryz.func28,Tryz.ntmps28
  go_wp2_with fail
  refine h.mono ?_
  rintro e w1 ⟨rfl,hb1⟩
  go_wp2_with fail
  go_ret
  rw [HV.out]
  exact ⟨rfl,onB HB0.out hb1⟩
end Go.Proofs.YtfldgghobddgkaaGreatDoor
namespace Go.Proofs.YtfldgghobddgkaaGreatDoor
open Go.RowKit Go.Extern.Stop Go.Stop Go.Extern
theorem valueOfP (t:Addr) (w:World):(ReflectliteValue.unpack (.iface 102 (.pointer (some t)))).run Tryz.prog w
  = .ok (.agg #[.pointer (some ⟨7,102,none⟩),.pointer (some ⟨w.heap.size,0,none⟩),.int .u64 150]) (w.alloc (.cells #[.pointer (some t)] 102)):=by kernel_rfl
theorem typeP (a : Addr) (w : World) : (ReflectliteValue.methodAny (ReflectliteValue.valueError "reflectlite.Value.Type" 0) (fun t _ _ _ => ReflectliteType.toType t) #[.agg #[.pointer (some ⟨7, 102, none⟩), .pointer (some a), .int .u64 150]]).run Tryz.prog w
  = .ok (.iface 160 (.agg #[.pointer (some ⟨7,102,none⟩)])) w:=by kernel_rfl
theorem methodKind (h : Value) (w : World) : (Go.method 401 160 (.agg #[h]) "Kind").run Tryz.prog w = .ok (237, h) w := by kernel_rfl
theorem kindP (w:World):((ReflectliteType.abiMethod fun t=>Functor.map (fun a:Nat=>Value.int IntKind.u8 (a:Int)) (Rtype.kind t)) #[.pointer (some ⟨7,102,none⟩)]).run Tryz.prog w=.ok (.int .u8 22) w:=by kernel_rfl
theorem kindN (w:World):((ReflectliteType.abiMethod fun t=>Functor.map (fun a:Nat=>Value.int IntKind.u8 (a:Int)) (Rtype.kind t)) #[.pointer (some ⟨7,69,none⟩)]).run Tryz.prog w=.ok (.int .u8 2) w:=by kernel_rfl
theorem methodNil (a : Addr) (W : World) : (ReflectliteValue.method (ReflectliteValue.valueError "reflectlite.Value.IsNil" 0) ReflectliteValue.isNil #[.agg #[.pointer (some ⟨7, 102, none⟩), .pointer (some a), .int .u64 150]]).run Tryz.prog W = (ReflectliteValue.isNil 102 a 150 22).run Tryz.prog W := by kernel_rfl
theorem methodElemV (a : Addr) (W : World) : (ReflectliteValue.method (ReflectliteValue.valueError "reflectlite.Value.Elem" 0) ReflectliteValue.elem #[.agg #[.pointer (some ⟨7, 102, none⟩), .pointer (some a), .int .u64 150]]).run Tryz.prog W = (ReflectliteValue.elem 102 a 150 22).run Tryz.prog W := by kernel_rfl
theorem setRun (ta b:Addr) (W:World):(ReflectliteValue.set #[.agg #[.pointer (some ⟨7,69,none⟩),.pointer (some ta),.int .u64 386],.agg #[.pointer (some ⟨7,69,none⟩),.pointer (some b),.int .u64 130]]).run Tryz.prog W=(do let v ←loadVar 69 b;storeVar 69 ta v;pure (Value.tuple #[]):Sem Value).run Tryz.prog W:=by kernel_rfl
theorem isNilP (a p:Addr) (W:World) (ha:W.cell? a=some (.pointer (some p))) :
  (ReflectliteValue.method (ReflectliteValue.valueError "reflectlite.Value.IsNil" 0) ReflectliteValue.isNil #[.agg #[.pointer (some ⟨7, 102, none⟩), .pointer (some a), .int .u64 150]]).run Tryz.prog W = .ok (.bool false) W := by
 rw [methodNil]
 simp [ReflectliteValue.isNil,loadVar,isAgg,underlying,Tryz.underlying102,ha,Result.andThen]
theorem methodElem (h : Value) (w : World) : (Go.method 401 160 (.agg #[h]) "Elem").run Tryz.prog w = .ok (247, .agg #[h]) w := by kernel_rfl
theorem methodImplements (h : Value) (w : World) : (Go.method 401 160 (.agg #[h]) "Implements").run Tryz.prog w = .ok (248, .agg #[h]) w := by kernel_rfl
theorem methodAssignableTo (h : Value) (w : World) : (Go.method 401 160 (.agg #[h]) "AssignableTo").run Tryz.prog w = .ok (245, .agg #[h]) w := by kernel_rfl
theorem elemP (w:World):(ReflectliteType.method ReflectliteType.elem #[.agg #[.pointer (some ⟨7,102,none⟩)]]).run Tryz.prog w=.ok (.iface 160 (.agg #[.pointer (some ⟨7,69,none⟩)])) w:=by kernel_rfl
theorem implementsN (w : World) : (ReflectliteType.relation "Implements" ReflectliteType.implements_ #[.agg #[.pointer (some ⟨7, 69, none⟩)], .iface 160 (.agg #[.pointer (some ⟨7, 31, none⟩)])]).run Tryz.prog w = .ok (.bool true) w := by kernel_rfl
theorem typeOfN (v:Value) (w:World):(ReflectliteType.typeOf #[.iface 69 v]).run Tryz.prog w=.ok (.iface 160 (.agg #[.pointer (some ⟨7,69,none⟩)])) w:=by kernel_rfl
theorem assignableN (w : World) : (ReflectliteType.relation "AssignableTo" ReflectliteType.assignableTo #[.agg #[.pointer (some ⟨7, 69, none⟩)], .iface 160 (.agg #[.pointer (some ⟨7, 69, none⟩)])]).run Tryz.prog w = .ok (.bool true) w := by kernel_rfl
theorem valueOfN (c:Int) (w:World):(ReflectliteValue.unpack (.iface 69 (.int .i64 c))).run Tryz.prog w
  = .ok (.agg #[.pointer (some ⟨7,69,none⟩),.pointer (some ⟨w.heap.size,0,none⟩),.int .u64 130]) (w.alloc (.cells #[.int .i64 c] 69)):=by kernel_rfl
theorem elemOfP (w:World):(Rtype.elem? 102).run Tryz.prog w=.ok (some 69) w:=by kernel_rfl
theorem mkN (p:Addr) (w:World):(ReflectliteValue.mk 69 p ReflectliteValue.flagAddr).run Tryz.prog w=.ok (.agg #[.pointer (some ⟨7,69,none⟩),.pointer (some p),.int .u64 386]) w:=by kernel_rfl
theorem elemVP (a p:Addr) (W:World) (ha:W.cell? a=some (.pointer (some p))) :
  (ReflectliteValue.method (ReflectliteValue.valueError "reflectlite.Value.Elem" 0) ReflectliteValue.elem #[.agg #[.pointer (some ⟨7, 102, none⟩), .pointer (some a), .int .u64 150]]).run Tryz.prog W
   = .ok (.agg #[.pointer (some ⟨7,69,none⟩),.pointer (some p),.int .u64 386]) W:=by
 rw [methodElemV]
 simp [ReflectliteValue.elem,loadVar,isAgg,underlying,Tryz.underlying102,ha,Result.andThen,elemOfP,mkN]
theorem setN (ta b:Addr) (c:Int) (old:Value) (W:World) (hb:W.cell? b=some (.int .i64 c)) (ht:W.cell? ta=some old) (hf:W.frozen? ta=false) :
  (ReflectliteValue.set #[.agg #[.pointer (some ⟨7,69,none⟩),.pointer (some ta),.int .u64 386],.agg #[.pointer (some ⟨7,69,none⟩),.pointer (some b),.int .u64 130]]).run Tryz.prog W
   = .ok (.tuple #[]) (W.setCell ta (.int .i64 c)):=by
 rw [setRun]
 simp [loadVar,isAgg,underlying,Tryz.underlying69,hb,Result.andThen,storeVar,Value.cells,storeCells,Addr.add]
 rw [run_store Tryz.prog W ta _ _ (by rfl)]
 simp [ht,hf]
def Kind0 (w:World):Prop:=w.cell? ⟨0,0,none⟩=some (.iface 160 (.agg #[.pointer (some ⟨7,31,none⟩)]))
theorem Kind0.lt {w:World} (h:Kind0 w):0<w.heap.size:=by
 rcases Nat.lt_or_ge 0 w.heap.size with h' | h'
 ·exact h'
 ·unfold Kind0 at h
  simp [World.cell?,Array.getElem?_eq_none h'] at h
theorem Kind0.later {w w':World} (h:Kind0 w) (hb:Below w.heap.size w w'):Kind0 w':=(hb.cell (p:=⟨0,0,none⟩) h.lt).trans h
set_option maxHeartbeats 4000000 in
theorem as_hit (c:Int) (b:Nat) (w:World) (hk:Kind0 w) (htl:b<w.heap.size) (ht0:w.cell? ⟨b,0,none⟩=some (.int .i64 0)) (hf0:w.frozen? ⟨b,0,none⟩=false) :
  Calls Tryz.prog 49 #[.iface 69 (.int .i64 c),.iface 102 (.pointer (some ⟨b,0,none⟩))] w fun ev w'=>ev=.returned (.bool true)∧w'=((((w.alloc (.cells #[.pointer (some ⟨b,0,none⟩)] 102)).alloc (.cells #[.pointer (some ⟨7,102,none⟩),.pointer (some ⟨w.heap.size,0,none⟩),.int .u64 150] 127)).alloc (.cells #[.pointer (some ⟨7,102,none⟩),.pointer (some ⟨w.heap.size,0,none⟩),.int .u64 150] 127)).alloc (.cells #[.int .i64 c] 69)).setCell ⟨b,0,none⟩ (.int .i64 c):=by
 have x1 := @run_callFunc_extern Tryz.prog 75 _ (fun args=>ReflectliteValue.unpack (args.getD 0 (.tuple #[]))) Tryz.func75 (by kernel_rfl) (by kernel_rfl) (by kernel_rfl) (by kernel_rfl)
 have x2 := @run_callFunc_extern Tryz.prog 76 _ (ReflectliteValue.methodAny (ReflectliteValue.valueError "reflectlite.Value.Type" 0) (fun t _ _ _ => ReflectliteType.toType t)) Tryz.func76 (by kernel_rfl) (by kernel_rfl) (by kernel_rfl) (by kernel_rfl)
 have x3 := @run_callFunc_extern Tryz.prog 77 _ (ReflectliteValue.method (ReflectliteValue.valueError "reflectlite.Value.IsNil" 0) ReflectliteValue.isNil) Tryz.func77 (by kernel_rfl) (by kernel_rfl) (by kernel_rfl) (by kernel_rfl)
 have x4 := @run_callFunc_extern Tryz.prog 237 _ (ReflectliteType.abiMethod fun t=>do pure (.int .u8 (←Rtype.kind t))) Tryz.func237 (by kernel_rfl) (by kernel_rfl) (by kernel_rfl) (by kernel_rfl)
 have x5 := @run_callFunc_extern Tryz.prog 247 _ (ReflectliteType.method ReflectliteType.elem) Tryz.func247 (by kernel_rfl) (by kernel_rfl) (by kernel_rfl) (by kernel_rfl)
 have x6 := @run_callFunc_extern Tryz.prog 248 _ (ReflectliteType.relation "Implements" ReflectliteType.implements_) Tryz.func248 (by kernel_rfl) (by kernel_rfl) (by kernel_rfl) (by kernel_rfl)
 have x7 := @run_callFunc_extern Tryz.prog 101 _ ReflectliteType.typeOf Tryz.func101 (by kernel_rfl) (by kernel_rfl) (by kernel_rfl) (by kernel_rfl)
 have x8 := @run_callFunc_extern Tryz.prog 245 _ (ReflectliteType.relation "AssignableTo" ReflectliteType.assignableTo) Tryz.func245 (by kernel_rfl) (by kernel_rfl) (by kernel_rfl) (by kernel_rfl)
 have x9 := @run_callFunc_extern Tryz.prog 102 _ (ReflectliteValue.method (ReflectliteValue.valueError "reflectlite.Value.Elem" 0) ReflectliteValue.elem) Tryz.func102 (by kernel_rfl) (by kernel_rfl) (by kernel_rfl) (by kernel_rfl)
 have xa := @run_callFunc_extern Tryz.prog 103 _ ReflectliteValue.set Tryz.func103 (by kernel_rfl) (by kernel_rfl) (by kernel_rfl) (by kernel_rfl)
 have y1:=typeOfN
 have y2:=methodAssignableTo
 have y3:=assignableN
 have y4:=valueOfN
 have y5:=valueOfP
 have y6:=typeP
 have y7:=methodKind
 have y8:=methodElem
 have y9:=methodImplements
 have ya:=kindP
 have yb:=kindN
 have yc:=elemP
 have yd:=implementsN
 have n8:=isNilP ⟨w.heap.size,0,none⟩ ⟨b,0,none⟩ ((w.alloc (.cells #[.pointer (some ⟨b,0,none⟩)] 102)).alloc (.cells #[.pointer (some ⟨7,102,none⟩),.pointer (some ⟨w.heap.size,0,none⟩),.int .u64 150] 127)) (by simp)
 have hlt:=hk.lt
 have hg2:((w.alloc (.cells #[.pointer (some ⟨b,0,none⟩)] 102)).alloc (.cells #[.pointer (some ⟨7,102,none⟩),.pointer (some ⟨w.heap.size,0,none⟩),.int .u64 150] 127)).cell? ⟨0,0,none⟩=some (.iface 160 (.agg #[.pointer (some ⟨7,31,none⟩)])):=by
  rw [World.cell?_alloc_lt _ _ ⟨0,0,none⟩ (by simp),World.cell?_alloc_lt _ _ ⟨0,0,none⟩ hlt];exact hk
 have el:=elemVP ⟨w.heap.size,0,none⟩ ⟨b,0,none⟩ (((w.alloc (.cells #[.pointer (some ⟨b,0,none⟩)] 102)).alloc (.cells #[.pointer (some ⟨7,102,none⟩),.pointer (some ⟨w.heap.size,0,none⟩),.int .u64 150] 127)).alloc (.cells #[.pointer (some ⟨7,102,none⟩),.pointer (some ⟨w.heap.size,0,none⟩),.int .u64 150] 127)) (by rw [World.cell?_alloc_lt _ _ ⟨w.heap.size,0,none⟩ (by simp;omega)];simp)
 have st:=setN ⟨b,0,none⟩ ⟨w.heap.size+1+1+1,0,none⟩ c (.int .i64 0) ((((w.alloc (.cells #[.pointer (some ⟨b,0,none⟩)] 102)).alloc (.cells #[.pointer (some ⟨7,102,none⟩),.pointer (some ⟨w.heap.size,0,none⟩),.int .u64 150] 127)).alloc (.cells #[.pointer (some ⟨7,102,none⟩),.pointer (some ⟨w.heap.size,0,none⟩),.int .u64 150] 127)).alloc (.cells #[.int .i64 c] 69))
  (by rw [World.cell?_alloc_at _ _ _ _ (by simp)];rfl)
  (by rw [World.cell?_alloc_lt _ _ ⟨b,0,none⟩ (by simp;omega),World.cell?_alloc_lt _ _ ⟨b,0,none⟩ (by simp;omega),World.cell?_alloc_lt _ _ ⟨b,0,none⟩ (by simp;omega),World.cell?_alloc_lt _ _ ⟨b,0,none⟩ htl];exact ht0)
  (by rw [World.frozen?_alloc_old _ _ ⟨b,0,none⟩ (by simp;omega),World.frozen?_alloc_old _ _ ⟨b,0,none⟩ (by simp;omega),World.frozen?_alloc_old _ _ ⟨b,0,none⟩ (by simp;omega),World.frozen?_alloc_old _ _ ⟨b,0,none⟩ (Nat.ne_of_lt htl)];exact hf0)
 clear hk
 go_enter Tryz.func49,Tryz.ntmps49
 go_wp2
 refine wp_loop_rounds 1 ?_
 rw [rounds_succ]
 go_wp2
 go_ret
 exact ⟨rfl,rfl⟩
end Go.Proofs.YtfldgghobddgkaaGreatDoor
