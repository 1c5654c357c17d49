/-
  Without formulas what is told at a place is what all its parts come to, on plain data: whichever dim tells it.
-/
import Derived.Test.YtaodedckffjpgafGreatDoorJXBS
import Derived.Test.YtaodedckffjpgafGreatDoorJXCB
namespace Go.Proofs.YtaodedckffjpgafGreatDoor
set_option maxRecDepth 20000
section
variable {D:Nat→Dm} {n:Nat} {l:List En}
theorem gV_none (hE:Ens D n l) {p:List Int} (hp:InO D n p):gV D n (fun _=>false) l p=getE l p:=by
 obtain ⟨x,-,hx,rfl⟩:=num_lt hp
 have h:=wr_at hE hx
 rw [wr_gL hE] at h
 have h2:=gL_at (D:=D) (n:=n) (S:=fun _=>false) (l:=l) hx
 exact h2.symm.trans h
theorem roll_leaf (hE:Ens D n l) {p:List Int} (hp:InO D n p) (hno:∀ i,i<n→partsOf (D i).mem (D i).n (p.getD i 0)=[]):rollV D n l p=getE l p:=by
 have hall:∀ k,k≤n→gV D n (fun j=>decide (j<k)) l p=gV D n (fun _=>false) l p:=by
  intro k
  induction k with
  | zero=>intro _;exact gV_congr fun e _=>gw_congr n fun j _=>by unfold facS;simp
  | succ k ih =>
   intro hk
   rw [←ih (by omega)]
   have h0:=hp.lo k (by omega)
   have h1:=hp.hi k (by omega)
   refine gV_congr fun e he=>?_
   rw [←gw_bare hE (show k<n by omega) (S:=fun j=>decide (j<k)) (by simp) he (m:=(p.getD k 0).toNat) (by omega) (by omega) (by rw [Int.toNat_of_nonneg h0];exact hno k (by omega))]
   refine gw_congr n fun j _=>?_
   have:decide (j<k+1)=addS (fun j=>decide (j<k)) k j:=by
    unfold addS
    rw [Bool.eq_iff_iff]
    simp
    omega
   unfold facS
   simp only [this]
 rw [←gV_all (S:=fun j=>decide (j<n)) (fun j hj=>decide_eq_true hj),hall n (Nat.le_refl _),gV_none hE hp]
theorem roll_parts (hE:Ens D n l) {p:List Int} (hp:InO D n p) {b:Nat} (hb:b<n) (hP:partsOf (D b).mem (D b).n (p.getD b 0)≠[]):rollV D n l p=partsV (D b).mem (fun z=>rollV D n l (p.set b z)) (partsOf (D b).mem (D b).n (p.getD b 0)):=by
 obtain ⟨x,-,hx,rfl⟩:=num_lt hp
 have h0:=hp.lo b hb
 have hdg:=digit_at (D:=D) (n:=n) (x:=x) hb
 obtain ⟨m,hm⟩:∃ m,x / stepD D n b % (D b).n=m:=⟨_,rfl⟩
 have hpm:(placeL D n x).getD b 0=(m:Int):=by omega
 rw [hpm] at hP ⊢
 have hfix:=gL_fix hE hb (S:=fun _=>true) (m:=m) x (by rw [gL_len];exact hx) hm hP
 have hS:∀ j,j<n→addS (fun _=>true) b j=true:=fun j _=>by simp [addS]
 rw [gL_at hx,gV_all hS] at hfix
 rw [hfix]
 refine parts_same _ _ fun k hk=>?_
 obtain ⟨j,rfl,hj,-⟩:=selTo_mem k hk
 obtain ⟨y,h1,h2,h3⟩:=set_num hE.right hb hx hj
 rw [hm] at h1
 unfold atP cAt
 rw [h1,Int.toNat_natCast,gL_at h2,gV_all hS,h3]
theorem sol_roll (hE:Ens D n l) (hR:AllR D n) (hf:∀ i,i<n→∀ k,k<(D i).n→((D i).mem k).formula.size=0):∀ (m:Nat) (p:List Int),InO D n p→msrTo D p n<m→solV D n (getE l) p=rollV D n l p:=by
 intro m
 induction m with
 | zero=>intro p _ h;omega
 | succ m ih =>
  intro p hp hm
  rcases by_in D p n with h | ⟨b,h1,h2⟩
  ·rw [sol_leaf _ (by omega),roll_leaf hE hp]
   intro i hi
   have hb:∀ k,byTo D p k = -1→∀ j,j<k→leafB (D j).mem (D j).n (p.getD j 0).toNat=true:=by
    intro k
    induction k with
    | zero=>intro _ j hj;omega
    | succ k ihk =>
     intro he j hj
     unfold byTo at he
     split at he
     ·omega
     ·rename_i hc
      by_cases e:j=k
      ·subst e
       cases hl:leafB (D j).mem (D j).n (p.getD j 0).toNat with
       | true=>rfl
       | false=>exact absurd ⟨hl,Or.inl (by omega)⟩ hc
      ·exact ihk he j (by omega)
   have hl:=hb n h i hi
   have h0:=hp.lo i hi
   unfold leafB at hl
   rw [Bool.and_eq_true] at hl
   have h3 : ¬ 0≤findFrom (partB (D i).mem ((p.getD i 0).toNat:Int)) (D i).n 0:=by simpa using hl.2
   rw [Int.toNat_of_nonneg h0] at h3
   refine List.eq_nil_iff_forall_not_mem.2 fun z hz=>h3 ?_
   obtain ⟨q,rfl,hq,hq2⟩:=selTo_mem z hz
   rcases findFrom_cases (partB (D i).mem (p.getD i 0)) (D i).n 0 with ⟨h4,h5⟩ | ⟨q2,h4,-⟩
   ·have:=h5 q (Nat.zero_le _) (by omega)
    rw [hq2] at this
    cases this
   ·omega
  ·rw [sol_by hR (getE l) hp h1]
   have hp0:=hp.lo b h2
   have hp1:=hp.hi b h2
   have hlf:leafB (D b).mem (D b).n (p.getD b 0).toNat=false:=by
    have hb:∀ k,byTo D p k=(b:Int)→leafB (D b).mem (D b).n (p.getD b 0).toNat=false:=by
     intro k
     induction k with
     | zero=>intro he;unfold byTo at he;omega
     | succ k ihk =>
      intro he
      unfold byTo at he
      split at he
      ·rename_i hc
       have:k=b:=by omega
       subst this
       exact hc.1
      ·exact ihk he
    exact hb n h1
   have hfz:=hf b h2 (p.getD b 0).toNat (by omega)
   have hP:partsOf (D b).mem (D b).n (p.getD b 0)≠[]:=by
    intro he
    unfold leafB at hlf
    rw [decide_eq_true hfz,Bool.true_and] at hlf
    have h3:0≤findFrom (partB (D b).mem ((p.getD b 0).toNat:Int)) (D b).n 0:=by simpa using hlf
    rw [Int.toNat_of_nonneg hp0] at h3
    rcases findFrom_cases (partB (D b).mem (p.getD b 0)) (D b).n 0 with ⟨h4,-⟩ | ⟨q2,h4,h5,h6,h7,h8⟩
    ·omega
    ·have:=sel_in (p:=partB (D b).mem (p.getD b 0)) h6 h7
     rw [Nat.zero_add,show selTo (partB (D b).mem (p.getD b 0)) (D b).n=[] from he] at this
     cases this
   rw [roll_parts hE hp h2 hP]
   have e2:partsV (D b).mem (fun z=>rollV D n l (p.set b z)) (partsOf (D b).mem (D b).n (p.getD b 0))=oneV (D b) (fun z=>rollV D n l (p.set b z)) (p.getD b 0).toNat:=by
    unfold oneV partsV
    rw [if_pos hfz,Int.toNat_of_nonneg hp0]
   rw [e2,←parts_value hfz,←parts_value hfz]
   unfold partsV
   refine parts_same _ _ fun z hz=>?_
   have hxi:=mNd_in hz
   have hrk:=rk_less (hR b h2) (i:=(p.getD b 0).toNat) (by omega) hz
   rw [Int.toNat_of_nonneg hp0] at hrk
   have hms:=(msr_less (by rw [hp.len];exact h2) hrk n).2 h2
   exact ih _ (inO_set hp h2 hxi.1 hxi.2) (by omega)
end
end Go.Proofs.YtaodedckffjpgafGreatDoor
namespace Go.Proofs.YtaodedckffjpgafGreatDoor
open Go.ChangeShapes Go.WideShapes Go.ChangeAt Go.RowKit
set_option maxRecDepth 20000
def tmA:Mem:=⟨⟨#[98]⟩,-1,0,⟨#[99,42,50]⟩⟩
def tmB:Mem:=⟨⟨#[99]⟩,-1,0,⟨#[]⟩⟩
def twoM (i:Nat):Mem:=if i=0 then tmA else tmB
def twoDm:Dm:=⟨⟨#[97]⟩,0,2,twoM⟩
def twoD:Nat→Dm:=fun _=>twoDm
def twoE:List En:=[⟨[1],7⟩]
theorem two_dim:dimErr twoDm=(-1,0):=by decide +kernel
theorem two_m0:mErr twoDm 0=0:=by decide +kernel
theorem two_m1:mErr twoDm 1=0:=by decide +kernel
theorem two_nd:ndL twoDm=[[1],[]]:=by decide +kernel
theorem two_err:rErr twoDm=(-1,0):=re3 (by rw [two_dim]) (fun j hj=>by
 have hj2:j<2:=hj
 rcases j with _ | _ | j
 ·exact two_m0
 ·exact two_m1
 ·omega) fun j _=>by rw [two_nd,←one_nd];exact one_acyc j
theorem two_all:(allErr twoD 1).2.2=0:=by decide +kernel
theorem two_ru:(ruErr twoD 1).2.2=0:=ru_zero two_all fun i _=>by show (rErr twoDm).2=0;rw [two_err]
theorem two_ents:entsErr twoD 1 twoE=0:=by decide +kernel
theorem two_place:placeErr twoD 1 [0]=0:=by decide +kernel
theorem two_so:soErr twoD 1 twoE [0]=0:=by
 have h:cuErr twoD 1 twoE=0:=by unfold cuErr;rw [two_ru,if_neg (by simp),two_ents]
 unfold soErr
 rw [h,if_neg (by simp),two_place]
theorem two_by0:byTo twoD [0] 1=0:=by decide +kernel
theorem two_by1:byTo twoD [1] 1 = -1:=by decide +kernel
theorem two_get:getE twoE [1]=(1,7):=by decide +kernel
theorem two_tre:treF twoDm 0=.bin 5 (.ref ⟨#[99]⟩) (.num 2):=by kernel_rfl
theorem two_wh:whL twoDm [99]=1:=by decide +kernel
theorem two_val:soV twoD 1 twoE [0]=(1,14):=by
 have hR:AllR twoD 1:=(ru_right two_ru).2
 have hp:=inO_of two_place
 unfold soV
 rw [if_pos two_so,sol_by hR (getE twoE) hp (b:=0) (by rw [two_by0];rfl)]
 show oneV twoDm (fun x=>solV twoD 1 (getE twoE) ([0].set 0 x)) 0=(1,14)
 unfold oneV
 rw [if_neg (by decide),two_tre]
 have h1:solV twoD 1 (getE twoE) [1]=(1,7):=by rw [sol_leaf _ (by rw [two_by1];decide),two_get]
 show opP 5 (solV twoD 1 (getE twoE) ([0].set 0 (whL twoDm [99]))) (ofP 2)=(1,14)
 rw [two_wh]
 show opP 5 (solV twoD 1 (getE twoE) [1]) (ofP 2)=(1,14)
 rw [h1]
 decide
def bareM (m:Mem):Mem:=⟨m.name,m.parent,m.sign,⟨#[]⟩⟩
def slv (D:Nat→Dm) (L:List Int) (i:Nat):Int:=if i<L.length then L.getD i 0 else (D i).solve
def bareO (D:Nat→Dm) (L:List Int) (i:Nat):Dm:=⟨(D i).name,slv D L i,(D i).n,fun k=>bareM ((D i).mem k)⟩
theorem bare_form (D:Nat→Dm) (L:List Int) (i k:Nat):((bareO D L i).mem k).formula.size=0:=rfl
theorem bare_roll {D:Nat→Dm} {L:List Int} {n:Nat} {l:List En} {p:List Int} (h:soErr (bareO D L) n l p=0):Ens (bareO D L) n l∧InO (bareO D L) n p∧soV (bareO D L) n l p=rollV (bareO D L) n l p:=by
 have h1:cuErr (bareO D L) n l=0:=by
  by_cases h2:cuErr (bareO D L) n l=0
  ·exact h2
  ·unfold soErr at h;rw [if_pos h2] at h;exact absurd h h2
 have h3:placeErr (bareO D L) n p=0:=by unfold soErr at h;rw [h1,if_neg (by simp)] at h;exact h
 have h4:(ruErr (bareO D L) n).2.2=0:=by
  by_cases h2:(ruErr (bareO D L) n).2.2=0
  ·exact h2
  ·unfold cuErr at h1;rw [if_pos h2] at h1;exact absurd h1 h2
 have h5:entsErr (bareO D L) n l=0:=by unfold cuErr at h1;rw [h4,if_neg (by simp)] at h1;exact h1
 have hE:=ens_of h5
 have hp:=inO_of h3
 refine ⟨hE,hp,?_⟩
 unfold soV
 rw [if_pos h]
 exact sol_roll hE (ru_right h4).2 (fun i _ k _=>bare_form D L i k) _ p hp (Nat.lt_succ_self _)
set_option maxHeartbeats 2000000 in
theorem rprod_any (g n:Nat) (D:Nat→Dm) (p:List Int) (Aq:Option Addr) (cq:Nat) (q:List Int) (w:World) (hq:InO D n q) (hS:SlB w g n n (wts D p)) (hQ:PlAt w Aq cq q):Calls Tryz.prog 47 #[.slice (some ⟨g,0,none⟩) n n,.slice Aq q.length cq] w fun e w'=>e=.returned (.int .i64 (prTo (wts D p) q n))∧Below w.heap.size w w':=by
 obtain ⟨hn1,hn4,-,hd⟩:=allErr_some hq.right
 have hl:=hq.len
 obtain ⟨hcp,h0 | ⟨bq,oq,rfl,hbq,hcell⟩⟩:=hQ
 ·rw [h0] at hl;simp at hl;omega
 rw [hl] at hcp hcell ⊢
 have HC:Hid (∀ j,j<n→w.cell? ⟨bq,oq+j,none⟩=some (.int .i64 (q.getD j 0))):=hcell
 have HS:Hid (SlB w g n n (wts D p)):=hS
 have HQ:Hid (InO D n q):=hq
 have hn':(n:Int)≤4:=by omega
 clear hcell hS hq hl
 go_enter Tryz.func47,Tryz.ntmps47
 go_wp2_with fail
 go_loopg [5,10] n (fun g' s5 s10 wr => ∃ (k:Nat),k≤n∧g'=n-k∧s10=.int .i64 k∧s5=.int .i64 (prTo (wts D p) q k)∧Below w.heap.size w wr)
 case atStart=>exact ⟨0,Nat.zero_le _,rfl,rfl,rfl,Below.refl _ _⟩
 case round =>
  obtain ⟨k,hk,rfl,rfl,rfl,hBw⟩:=hrel
  have HBw:Hid (Below w.heap.size w wr):=hBw
  by_cases hlt:k<n
  ·have hki:(k:Int)<(n:Int):=by omega
   obtain ⟨AL,cL,hcL,hcl,hIL⟩:=(HS.out.later hBw).get hlt
   have hlen:(wts D p k).length=(D k).n:=cnts_len ..
   have e1:=(hBw.cell (p:=⟨bq,oq+k,none⟩) hbq).trans (HC.out k hlt)
   obtain ⟨x,hx⟩:∃ x:Nat,q.getD k 0=x:=⟨(q.getD k 0).toNat,by have:=HQ.out.lo k hlt;omega⟩
   have hxn:x<(D k).n:=by have:=HQ.out.hi k hlt;omega
   obtain ⟨hdn1,hdn2⟩:=hd k hlt
   rcases hIL with h0 | ⟨bL,rfl,hbL,hLc⟩
   ·rw [h0] at hlen;simp at hlen;omega
   have e2:=hLc x (by omega)
   rw [hlen] at hcL hcl
   rw [hx] at e1
   have HPr:Hid (prTo (wts D p) q (k+1)=prTo (wts D p) q k*(wts D p k).getD x 0):=by show _=_;rw [prTo,hx,Int.toNat_natCast]
   have hs1:=prTo_small HQ.out.right p q (k+1) (by omega)
   rw [HPr.out] at hs1
   obtain ⟨hs1,hs2⟩:=hs1
   generalize (wts D p k).getD x 0=y at e2 HPr hs1 hs2
   generalize (D k).n=dk at hcL hcl hdn1 hdn2 hxn
   generalize prTo (wts D p) q k=z at HPr hs1 hs2
   have hxi:(x:Int)<(dk:Int):=by omega
   have hdi:(dk:Int)≤12:=by omega
   clear hBw hLc hlen hx
   go_wp2_with fail
   first | go_quiet (fail) | skip
   go_wp2_with fail
   go_roundg (n-(k+1))
   case measure=>omega
   case rel=>exact ⟨k+1,by omega,rfl,by go_num,by rw [HPr.out],by first | exact HBw.out | exact below_drewN HBw.out _⟩
  ·have hke:k=n:=by omega
   subst hke
   clear hBw
   go_wp2_with fail
   go_ret
   exact ⟨rfl,HBw.out⟩
set_option maxHeartbeats 4000000 in
theorem rvalue_any (A0:Option Addr) (cap n:Nat) (D:Nat→Dm) (A:Nat→Option Addr) (C:Nat→Nat) (AE:Option Addr) (ce:Nat) (xs:List EnL) (Ap:Option Addr) (cp:Nat) (p:List Int) (w:World) (hEs:Ens D n (lE xs)) (hp:InO D n p) (hM:DimsV w A0 cap n D A C) (hE:EnsV w AE ce xs) (hP:PlAt w Ap cp p) :
  Calls Tryz.prog 22 #[.agg #[.slice A0 n cap],.slice AE xs.length ce,.slice Ap p.length cp] w fun e w'=>e=.returned (.tuple #[.agg #[.int .i64 (rollV D n (lE xs) p).1,.int .i64 (rollV D n (lE xs) p).2],.nilIface])∧Below w.heap.size w w':=by
 have hB0:=ownOC_below w A0 n cap
 have h:=icheck_any A0 cap n D A C AE ce xs (ownOC w A0 n cap) (hM.later hB0) (hE.later hB0)
 rw [hEs.ok,errV_zero] at h
 have HB0:Hid (Below w.heap.size w (ownOC w A0 n cap)):=hB0
 have HWs:Hid (∀ w',Below w.heap.size w w'→Calls Tryz.prog 46 #[.agg #[.slice A0 n cap],.slice Ap p.length cp] w' fun e w''=>(∃ g,e=.returned (.tuple #[.slice (some ⟨g,0,none⟩) n n,.nilIface])∧SlB w'' g n n (wts D p))∧Below w'.heap.size w' w''):=fun w' hw'=>rws_any A0 cap n D A C Ap cp p w' hp (hM.later hw') (hP.later hw')
 have HE:Hid (EnsV w AE ce xs):=hE
 have HEs:Hid (Ens D n (lE xs)):=hEs
 have hfew:xs.length≤3000:=by have:=hEs.few;rw [lE_len] at this;exact this
 have HFin:Hid (((lE xs).take xs.length).foldl (rollStep D n p) (0,0)=rollV D n (lE xs) p):=by show _=_;rw [List.take_of_length_le (by rw [lE_len];exact Nat.le_refl _)];exact roll_fold ..
 obtain ⟨N,hN⟩:∃ N,xs.length=N:=⟨_,rfl⟩
 have HN:Hid (xs.length=N):=hN
 rw [hN] at h hfew HFin
 rw [hN]
 generalize p.length=np at HWs
 have hNi:(N:Int)≤3000:=by omega
 clear hB0 hM hE hP hN hEs hp
 go_enter Tryz.func22,Tryz.ntmps22
 go_wp2_with fail
 refine h.mono ?_
 rintro e w1 ⟨rfl,hb1⟩
 have hB:Below w.heap.size w w1:=onB HB0.out hb1
 have hz1:w.heap.size+1<w1.heap.size:=by have:=hb1.size;rw [ownOC_size] at this;omega
 have c1:w1.cell? ⟨w.heap.size,0,none⟩=some (.slice A0 n cap):=(hb1.cell (p:=⟨w.heap.size,0,none⟩) (by show w.heap.size<_;rw [ownOC_size];omega)).trans (ownOC_o ..)
 have HK1:Hid (w1.heap[w.heap.size+1]?=some (.cells #[.int .i64 0,.int .i64 0] 48)):=(hb1.block (w.heap.size+1) (by rw [ownOC_size];omega)).trans (ownOC_b ..)
 have hws:=HWs.out w1 hB
 have HB:Hid (Below w.heap.size w w1):=hB
 clear hb1 h hB
 go_wp2_with fail
 refine hws.mono ?_
 rintro e w2 ⟨⟨g,rfl,hS⟩,hb2⟩
 have HB2:Hid (Below w.heap.size w w2):=onB HB.out hb2
 have HS:Hid (SlB w2 g n n (wts D p)):=hS
 have HK2:Hid (w2.heap[w.heap.size+1]?=some (.cells #[.int .i64 0,.int .i64 0] 48)):=(hb2.block _ hz1).trans HK1.out
 have hz2:w.heap.size+1<w2.heap.size:=Nat.lt_of_lt_of_le hz1 hb2.size
 clear hb2 hS hws c1 HK1 HB hz1
 go_wp2_with fail
 go_loopg [11,12,35] N (fun g' s11 s12 s35 wr => ∃ (k:Nat),k≤N∧g'=N-k∧s35=.int .i64 k∧s11=.int .i64 (rollN D n p ((lE xs).take k))∧s12=.bool (((lE xs).take k).any (cntR D n p))∧Below w2.heap.size w2 wr)
 case atStart=>exact ⟨0,Nat.zero_le _,rfl,rfl,rfl,rfl,Below.refl _ _⟩
 case round =>
  obtain ⟨k,hk,rfl,rfl,rfl,rfl,hBw⟩:=hrel
  have HBw:Hid (Below w2.heap.size w2 wr):=hBw
  by_cases hlt:k<N
  ·have hki:(k:Int)<(N:Int):=by omega
   have hkx:k<xs.length:=by rw [HN.out];exact hlt
   have hkl:k<(lE xs).length:=by rw [lE_len];exact hkx
   obtain ⟨hce,-,h0 | ⟨b,o,rfl,hA⟩⟩:=HE.out.later (onB HB2.out hBw)
   ·rw [h0] at hkx;cases hkx
   obtain ⟨c0,c1⟩:=hA.at hkx
   have hpl:=hA.pl hkx
   have hel:(lE xs)[k]=(xs.getD k noL).e:=by rw [←lE_at,List.getD_eq_getElem?_getD,List.getElem?_eq_getElem hkl];rfl
   obtain ⟨hqO,hqL,hqN⟩:=HEs.out.each (lE xs)[k] (List.getElem_mem hkl)
   rw [hel] at hqO hqL hqN
   have hw0:=pwTo_small hqO p n (Nat.le_refl _)
   have hpr:=pr_wts hqO hqL p n (Nat.le_refl _)
   have HPd:Hid (∀ w',Below wr.heap.size wr w'→Calls Tryz.prog 47 #[.slice (some ⟨g,0,none⟩) n n,.slice (xs.getD k noL).A (xs.getD k noL).e.pl.length (xs.getD k noL).c] w' fun e w''=>e=.returned (.int .i64 (pwTo D p (xs.getD k noL).e.pl n))∧Below w'.heap.size w' w''):=fun w' hw'=>by
    have:=rprod_any g n D p _ _ _ w' hqO (HS.out.later (onB hBw hw')) (hpl.later hw')
    rw [hpr] at this
    exact this
   have hn1 : -1000000≤(xs.getD k noL).e.n∧(xs.getD k noL).e.n≤1000000:=by simpa [numOk] using hqN
   have hbd:=roll_bound p ((lE xs).take k) fun e he=>HEs.out.each e (List.mem_of_mem_take he)
   have hlk:(((lE xs).take k).length:Int)≤3000:=by
    have:=List.length_take_le k (lE xs)
    omega
   have HT:Hid ((lE xs).take (k+1)=(lE xs).take k ++ [(xs.getD k noL).e]):=by show _=_;rw [List.take_succ_eq_append_getElem hkl,hel]
   have HCn:Hid (cntR D n p (xs.getD k noL).e = !(pwTo D p (xs.getD k noL).e.pl n == 0)):=cnt_pw
   have HVr:Hid (valR D n p (xs.getD k noL).e=pwTo D p (xs.getD k noL).e.pl n*(xs.getD k noL).e.n):=rfl
   generalize hlen:((lE xs).take k).length=lk at hbd hlk
   obtain ⟨RS,hRS⟩:∃ v,rollN D n p ((lE xs).take k)=v:=⟨_,rfl⟩
   have HRS:Hid (rollN D n p ((lE xs).take k)=RS):=hRS
   rw [hRS] at hbd ⊢
   obtain ⟨an,han⟩:∃ v,((lE xs).take k).any (cntR D n p)=v:=⟨_,rfl⟩
   have HAN:Hid (((lE xs).take k).any (cntR D n p)=an):=han
   rw [han]
   generalize (xs.getD k noL).e=en at *
   generalize (xs.getD k noL).A=Ae at *
   generalize (xs.getD k noL).c=ke at *
   generalize pwTo D p en.pl n=pw at HPd HCn HVr hw0
   obtain ⟨en1,en2⟩:=en
   simp only at *
   generalize en1.length=me at c0 HPd
   have hRS1 : -3000000000≤RS:=by omega
   have hRS2:RS≤3000000000:=by omega
   have hcs:pw=0∨pw=1∨pw = -1:=by omega
   clear hBw hA hpl hqO hqL hqN hpr hbd hlk hlen hRS han hel hw0
   obtain ⟨hn1,hn2⟩:=hn1
   rcases hcs with rfl | rfl | rfl
   ·have HC0:Hid (cntR D n p ⟨en1,en2⟩=false):=HCn.out
    go_wp2_with fail
    refine (HPd.out _ (by go_grown)).mono ?_
    rintro e w3 ⟨rfl,hb3⟩
    have HB3:Hid (Below wr.heap.size wr w3):=onB (by go_grown) hb3
    clear hb3
    go_wp2_with fail
    go_roundg (N-(k+1))
    case measure=>omega
    case rel =>
     refine ⟨k+1,by omega,rfl,by go_num,?_,?_,onB HBw.out HB3.out⟩
     ·rw [HT.out,rollN_append,HRS.out,rollN,rollN,if_neg (by rw [HC0.out];simp)]
      simp
     ·rw [HT.out,List.any_append,HAN.out];simp [HC0.out]
   ·have HC0:Hid (cntR D n p ⟨en1,en2⟩=true):=HCn.out
    have HV0:Hid (valR D n p ⟨en1,en2⟩=en2):=by show _=_;rw [HVr.out];simp
    go_wp2_with fail
    refine (HPd.out _ (by go_grown)).mono ?_
    rintro e w3 ⟨rfl,hb3⟩
    have HB3:Hid (Below wr.heap.size wr w3):=onB (by go_grown) hb3
    have c3:w3.cell? ⟨wr.heap.size,1,none⟩=some (.int .i64 en2):=(hb3.cell (p:=⟨wr.heap.size,1,none⟩) (by simp)).trans (by simp)
    clear hb3
    go_wp2_with fail
    go_roundg (N-(k+1))
    case measure=>omega
    case rel =>
     refine ⟨k+1,by omega,rfl,by go_num,?_,?_,onB HBw.out HB3.out⟩
     ·rw [HT.out,rollN_append,HRS.out,rollN,rollN,if_pos HC0.out,HV0.out]
      first | rfl | (congr 1;omega) | go_num
     ·rw [HT.out,List.any_append,HAN.out];simp [HC0.out]
   ·have HC0:Hid (cntR D n p ⟨en1,en2⟩=true):=HCn.out
    have HV0:Hid (valR D n p ⟨en1,en2⟩ = -en2):=by show _=_;rw [HVr.out];simp
    go_wp2_with fail
    refine (HPd.out _ (by go_grown)).mono ?_
    rintro e w3 ⟨rfl,hb3⟩
    have HB3:Hid (Below wr.heap.size wr w3):=onB (by go_grown) hb3
    have c3:w3.cell? ⟨wr.heap.size,1,none⟩=some (.int .i64 en2):=(hb3.cell (p:=⟨wr.heap.size,1,none⟩) (by simp)).trans (by simp)
    clear hb3
    go_wp2_with fail
    go_roundg (N-(k+1))
    case measure=>omega
    case rel =>
     refine ⟨k+1,by omega,rfl,by go_num,?_,?_,onB HBw.out HB3.out⟩
     ·rw [HT.out,rollN_append,HRS.out,rollN,rollN,if_pos HC0.out,HV0.out]
      first | rfl | (congr 1;omega) | go_num
     ·rw [HT.out,List.any_append,HAN.out];simp [HC0.out]
  ·have hke:k=N:=by omega
   subst hke
   have hz3:w.heap.size+1<wr.heap.size:=Nat.lt_of_lt_of_le hz2 hBw.size
   have HK3:Hid (wr.heap[w.heap.size+1]?=some (.cells #[.int .i64 0,.int .i64 0] 48)):=(hBw.block _ hz2).trans HK2.out
   have HAll:Hid ((lE xs).take k=lE xs):=by show _=_;rw [List.take_of_length_le (by rw [lE_len,HN.out];exact Nat.le_refl _)]
   rw [HAll.out]
   have hbd:=roll_bound p (lE xs) HEs.out.each
   have hlk:((lE xs).length:Int)≤3000:=by rw [lE_len,HN.out];omega
   have hR1 : -3000000000≤rollN D n p (lE xs):=by omega
   have hR2:rollN D n p (lE xs)≤3000000000:=by omega
   cases han:(lE xs).any (cntR D n p)
   ·have HV1:Hid (rollV D n (lE xs) p=(0,0)):=by show _=_;unfold rollV rollK;rw [roll_none han,han];rfl
    have d0:wr.cell? ⟨w.heap.size+1,0,none⟩=some (.int .i64 0):=by rw [Lib.cell_of_heap HK3.out];rfl
    have d1:wr.cell? ⟨w.heap.size+1,1,none⟩=some (.int .i64 0):=by rw [Lib.cell_of_heap HK3.out];rfl
    have f0:wr.frozen? ⟨w.heap.size+1,0,none⟩=false:=Lib.frozen_of_heap HK3.out 0
    have f1:wr.frozen? ⟨w.heap.size+1,1,none⟩=false:=Lib.frozen_of_heap HK3.out 1
    generalize rollN D n p (lE xs)=RS
    clear hBw han hbd hlk hR1 hR2
    go_wp2_with fail
    refine bodyPost_ret (v:=.tuple #[.agg #[.int .i64 0,.int .i64 0],.nilIface]) (by simp [results,Tryz.results22,go_sem,d0,d1]) rfl ⟨by rw [HV1.out],?_⟩
    exact ((onB HB2.out HBw.out).setCell (by show w.heap.size≤w.heap.size+1;omega) _).setCell (by show w.heap.size≤w.heap.size+1;omega) _
   ·have HV1:Hid (rollV D n (lE xs) p=(1,rollN D n p (lE xs))):=by show _=_;unfold rollV rollK;rw [han];rfl
    generalize rollN D n p (lE xs)=RS at HV1 hR1 hR2
    have hof:=fun w'=>of_any RS w'
    have hofp:ofP RS=(1,RS):=ofP_in (by omega) (by omega)
    rw [hofp] at hof
    clear hBw han hbd hlk hofp
    go_wp2_with fail
    refine (hof _).mono ?_
    rintro e w4 ⟨rfl,hb4⟩
    have k4:w4.heap[w.heap.size+1]?=some (.cells #[.int .i64 0,.int .i64 0] 48):=(hb4.block _ hz3).trans HK3.out
    have d0:w4.cell? ⟨w.heap.size+1,0,none⟩=some (.int .i64 0):=by rw [Lib.cell_of_heap k4];rfl
    have d1:w4.cell? ⟨w.heap.size+1,1,none⟩=some (.int .i64 0):=by rw [Lib.cell_of_heap k4];rfl
    have f0:w4.frozen? ⟨w.heap.size+1,0,none⟩=false:=Lib.frozen_of_heap k4 0
    have f1:w4.frozen? ⟨w.heap.size+1,1,none⟩=false:=Lib.frozen_of_heap k4 1
    have HB4:Hid (Below w.heap.size w w4):=onB (onB HB2.out HBw.out) hb4
    clear hb4 k4 hof
    go_wp2_with fail
    refine bodyPost_ret (v:=.tuple #[.agg #[.int .i64 1,.int .i64 RS],.nilIface]) (by simp [results,Tryz.results22,go_sem,d0,d1]) rfl ⟨by rw [HV1.out],?_⟩
    exact (HB4.out.setCell (by show w.heap.size≤w.heap.size+1;omega) _).setCell (by show w.heap.size≤w.heap.size+1;omega) _
end Go.Proofs.YtaodedckffjpgafGreatDoor
