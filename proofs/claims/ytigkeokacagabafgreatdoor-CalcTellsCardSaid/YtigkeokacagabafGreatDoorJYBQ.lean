/-
  What the document's own tell answers at a place that a formula tells: what that comes to by the cells of its refs.
-/
import Derived.Test.YtigkeokacagabafGreatDoorJYBK
import Derived.Test.YtigkeokacagabafGreatDoorJYBP
namespace Go.Proofs.YtigkeokacagabafGreatDoor
open Go.ChangeShapes Go.WideShapes Go.ChangeAt Go.RowKit
set_option maxRecDepth 20000
theorem celV_ownR {w:World} {base:Nat} {v:Value} {L:List (Int×Int)} (h:w.ownsRow base 48 2 v L.length (cellsC L)):∃ A c,v=.slice A L.length c∧CelV w A c L:=by
 by_cases hl:0<L.length
 ·obtain ⟨g,c,h1,-,h2,h3,h4⟩:=celB_own h hl
  exact ⟨_,c,h1,h2,h3,Or.inr ⟨g,0,rfl,h4.celAt⟩⟩
 ·have hL:L=[]:=List.eq_nil_of_length_eq_zero (by omega)
  subst hL
  rcases h.2 with ⟨rfl,-⟩ | ⟨g,cap,cur,rfl,-,-,-,h5,-⟩
  ·exact ⟨none,0,rfl,CelV.nil _ _ _ (by omega)⟩
  ·exact ⟨_,cap,rfl,CelV.nil _ _ _ (by unfold maxLen at h5;omega)⟩
set_option maxHeartbeats 16000000 in
theorem stell_form (A0:Option Addr) (cap n:Nat) (D:Nat→Dm) (A:Nat→Option Addr) (C:Nat→Nat) (ve:Value) (Ap:Option Addr) (cp:Nat) (L:List Int) (Ac:Option Addr) (cc:Nat) (CL:List (Int×Int)) (b m:Nat) (w:World) (hI:InO D n L) (hM:DimsV w A0 cap n D A C) (hP:PlAt w Ap cp L) (hC:CelV w Ac cc CL) (hCL:CL.length=prodN D n) (hgd:goodL CL) (hb:byTo D L n=(b:Int)) (hm:(L.getD b 0).toNat=m) (hR:AllR D n) (hf:((D b).mem m).formula.size≠0) :
  Calls Tryz.prog 37 #[.agg #[.slice A0 n cap],ve,.slice Ap L.length cp,.slice Ac CL.length cc] w fun e w'=>e=.returned (.agg #[.int .i64 (oneV (D b) (fun z=>CL.getD (numI D (L.set b z) n).toNat noC) m).1,.int .i64 (oneV (D b) (fun z=>CL.getD (numI D (L.set b z) n).toNat noC) m).2])∧Below w.heap.size w w':=by
 obtain ⟨hn1,hn4,hp3,hd⟩:=allErr_some hI.right
 have hbn:b<n:=by
  rcases by_in D L n with h | ⟨b',h1,h2⟩ <;> omega
 obtain ⟨hd1,hd12⟩:=hd b hbn
 have hdk:=(allErr_right hI.right).2 b hbn
 have hp0:=hI.lo b hbn
 have hp1:=hI.hi b hbn
 have hmn:m<(D b).n:=by omega
 have hLb:L.getD b 0=(m:Int):=by omega
 have hl:=hI.len
 obtain ⟨W,hW⟩:∃ W,(w.alloc (.cells #[.slice A0 n cap] 42)).alloc (.cells #[.int .i64 0,.int .i64 0] 48)=W:=⟨_,rfl⟩
 have hBW:Below w.heap.size w W:=by rw [←hW];go_grown
 have hk1:W.heap[w.heap.size+1]?=some (.cells #[.int .i64 0,.int .i64 0] 48 (0,0)):=by rw [←hW];exact topF1 _ _ _
 have hk0:W.heap[w.heap.size]?=some (.cells #[.slice A0 n cap] 42 (0,0)):=by rw [←hW];exact topF0 _ _ _
 have d0:W.cell? ⟨w.heap.size,0,none⟩=some (.slice A0 n cap):=by simp [World.cell?,hk0]
 have hsz:w.heap.size<W.heap.size:=(Array.getElem?_eq_some_iff.1 hk0).1
 have hsz1:w.heap.size+1<W.heap.size:=(Array.getElem?_eq_some_iff.1 hk1).1
 have hby:=sby_any A0 cap n D A C Ap cp L W hI (hM.later hBW) (hP.later hBW)
 rw [hb] at hby
 have HB0:Hid (Below w.heap.size w W):=hBW
 have HK:Hid (W.heap[w.heap.size]?=some (.cells #[.slice A0 n cap] 42 (0,0))∧W.heap[w.heap.size+1]?=some (.cells #[.int .i64 0,.int .i64 0] 48 (0,0))):=⟨hk0,hk1⟩
 have HM:Hid (DimsV w A0 cap n D A C):=hM
 have HP:Hid (PlAt w Ap cp L):=hP
 have HC:Hid (CelV w Ac cc CL):=hC
 have HI:Hid (InO D n L):=hI
 have HSg:Hid (Sg (D b).mem (D b).n):=Sg.of hdk
 have HTr:Hid (Tr (D b).mem (D b).n):=Tr.of hdk
 have HCL:Hid (CL.length=prodN D n):=hCL
 have HGd:Hid (goodL CL):=hgd
 obtain ⟨f,hfeq⟩:∃ f:Int→Int×Int,f=fun z=>CL.getD (numI D (L.set b z) n).toNat noC:=⟨_,rfl⟩
 have HFe:Hid (∀ z,f z=CL.getD (numI D (L.set b z) n).toNat noC):=fun z=>by rw [hfeq]
 rw [←hfeq]
 obtain ⟨hdz,hmz,-,-⟩:=rErr_right (hR b hbn)
 have hme:=hmz m hmn
 have hpe:=mErr_prsE hf hme
 have hfe:=form_read hpe
 have h100:=memErr_form ((dimErr_right hdz).2.2.2 m hmn)
 have HFm:Hid ((dimErr (D b)).2=0∧mErr (D b) m=0∧((D b).mem m).formula.size≠0):=⟨hdz,hme,hf⟩
 obtain ⟨l,hle⟩:∃ l,prsL ((D b).mem m).formula=l:=⟨_,rfl⟩
 have HLe:Hid (prsL ((D b).mem m).formula=l):=hle
 rw [hle] at hfe
 have HRd:Hid (∀ w',Calls Tryz.prog 67 #[.string ((D b).mem m).formula] w' fun e w''=>(∃ A c,e=.returned (.tuple #[.slice A l.length c,.int .i64 (prsA ((D b).mem m).formula:Int),.int .i64 0])∧NdsV w'' A c l)∧Below w'.heap.size w' w''):=fun w'=>by
  have h:=rread_any ((D b).mem m).formula w' h100
  rw [hpe,hle] at h
  exact h
 have HFe2:Hid (formErr l=0):=hfe
 have hf':((D b).mem m).formula.toList.isEmpty=false:=by rw [empty_same];simpa using hf
 rw [hl] at hby ⊢
 obtain ⟨N,hN⟩:∃ N,CL.length=N:=⟨_,rfl⟩
 have HN:Hid (CL.length=N):=hN
 rw [hN]
 have hN3:N≤3000:=by omega
 have hbI:(b:Int)<(n:Int):=by omega
 have hb0:decide ((b:Int)<0)=false:=decide_eq_false (by omega)
 have hnI:(n:Int)≤4:=by omega
 have hmI:(m:Int)<((D b).n:Int):=by omega
 have hdI:((D b).n:Int)≤12:=by omega
 have hNI:(N:Int)≤3000:=by omega
 clear hI hM hP hC hCL hgd hb hm hf hfeq hBW hR hdz hmz hme hpe hfe h100 hle hk0 hk1 hdk hd hN hp0 hp1
 go_enter Tryz.func37,Tryz.ntmps37
 go_wp2_with fail
 refine hby.mono ?_
 rintro e w1 ⟨rfl,hb1⟩
 have HB1:Hid (Below W.heap.size W w1):=hb1
 have hB1:=onB HB0.out hb1
 obtain ⟨hcap,h0 | ⟨bo,oo,rfl,hMs⟩⟩:=HM.out.later hB1
 ·omega
 have hcapI:(n:Int)≤(cap:Int):=by omega
 obtain ⟨q0,q1,q2,q3⟩:=hMs.2 b hbn
 obtain ⟨-,h0 | ⟨bm,om,hAm,hMm⟩⟩:=q3
 ·omega
 rw [hAm] at q2
 obtain ⟨hcp,h0 | ⟨bp,op,rfl,hbp,hcell⟩⟩:=HP.out
 ·rw [h0] at hl;simp at hl;omega
 have hcpI:(n:Int)≤(cp:Int):=by omega
 have HPc:Hid (∀ w',Below w.heap.size w w'→w'.cell? ⟨bp,op+b,none⟩=some (.int .i64 m)∧bp<w'.heap.size):=fun w' hB=>⟨by rw [←hLb];exact (hB.cell (p:=⟨bp,op+b,none⟩) hbp).trans (hcell b (by omega)),Nat.lt_of_lt_of_le hbp hB.size⟩
 have cw1:=(hb1.cell (p:=⟨w.heap.size,0,none⟩) hsz).trans d0
 have hsw1:w.heap.size<w1.heap.size:=Nat.lt_of_lt_of_le hsz hb1.size
 have hbo:bo<w1.heap.size:=hMs.1
 have HMm:Hid (∀ w',Below w.heap.size w w'→MemsAt w' bm om (D b).n (D b).mem):=fun w' hB=>by
  obtain ⟨-,h0 | ⟨b1,o1,h1,h2⟩⟩:=HM.out.later hB
  ·omega
  cases h1
  obtain ⟨-,h0 | ⟨b2,o2,h3,h4⟩⟩:=(h2.2 b hbn).2.2.2
  ·omega
  rw [hAm] at h3
  cases h3
  exact h4
 obtain ⟨y1,hy1⟩:∃ y,w1.alloc (.cells #[.string (D b).name,.int .i64 (D b).solve,.slice (some ⟨bm,om,none⟩) (D b).n (C b)] 24)=y:=⟨_,rfl⟩
 have hBy1:Below w1.heap.size w1 y1:=by rw [←hy1];go_grown
 have HT1:Hid (TelB w (some ⟨bo,oo,none⟩) cap n w1.heap.size (D b) (some ⟨bm,om,none⟩) (C b) y1):=by
  have h0:=(hBy1.block _ hsw1).trans ((hb1.block _ hsz).trans HK.out.1)
  have h2:y1.heap[w1.heap.size]?=some (.cells #[.string (D b).name,.int .i64 (D b).solve,.slice (some ⟨bm,om,none⟩) (D b).n (C b)] 24 (0,0)):=by rw [←hy1];exact heap_alloc_new ..
  exact ⟨onB hB1 hBy1,⟨(Array.getElem?_eq_some_iff.1 h0).1,by simp [World.cell?,h0]⟩,(hBy1.block _ (Nat.lt_of_lt_of_le hsz1 hb1.size)).trans ((hb1.block _ hsz1).trans HK.out.2),(Array.getElem?_eq_some_iff.1 h2).1,by simp [World.cell?,h2],by simp [World.cell?,h2],by simp [World.cell?,h2]⟩
 obtain ⟨e1,e2,e3,e4⟩:=HT1.out.2.2.2
 obtain ⟨pc,hbpy⟩:=HPc.out y1 HT1.out.1
 have hMy:=HMm.out y1 HT1.out.1
 obtain ⟨-,-,-,m3⟩:=hMy.2 m hmn
 have hbmy:bm<y1.heap.size:=hMy.1
 have hsb1:w.heap.size+1<w1.heap.size:=Nat.lt_of_lt_of_le hsz1 hb1.size
 clear hb1 hB1 hMs hMm hAm hcell hby d0 hBy1 hMy
 go_wp2_with fail
 go_quiet (fail)
 generalize hwj:y1.drewN nq=wj
 have hBj:Below y1.heap.size y1 wj:=by rw [←hwj];exact below_drewN (Below.refl _ _) _
 have HTj:Hid (TelB w (some ⟨bo,oo,none⟩) cap n w1.heap.size (D b) (some ⟨bm,om,none⟩) (C b) wj):=HT1.out.later hBj
 obtain ⟨e1',e2',e3',e4'⟩:=HTj.out.2.2.2
 obtain ⟨pc',hbpy'⟩:=HPc.out wj HTj.out.1
 have hMj:=HMm.out wj HTj.out.1
 obtain ⟨-,-,-,m3'⟩:=hMj.2 m hmn
 have hbmj:bm<wj.heap.size:=hMj.1
 obtain ⟨pa,hpa⟩:∃ pa:Int,(prsA ((D b).mem m).formula:Int)=pa:=⟨_,rfl⟩
 rw [hpa] at HRd
 obtain ⟨NL,hNL⟩:∃ NL,l.length=NL:=⟨_,rfl⟩
 have HNL:Hid (l.length=NL):=hNL
 rw [hNL] at HRd
 have HKj:Hid (∀ w',Below wj.heap.size wj w'→Below wj.heap.size wj w'∧w'.cell? ⟨w1.heap.size,2,none⟩=some (.slice (some ⟨bm,om,none⟩) (D b).n (C b))∧w'.cell? ⟨bp,op+b,none⟩=some (.int .i64 m)∧w'.cell? ⟨bm,om+m*4+3,none⟩=some (.string ((D b).mem m).formula)):=fun w' h=>⟨h,(h.cell (p:=⟨w1.heap.size,2,none⟩) e1').trans e4',(h.cell (p:=⟨bp,op+b,none⟩) hbpy').trans pc',(h.cell (p:=⟨bm,om+m*4+3,none⟩) hbmj).trans m3'⟩
 clear hBj e1 e2 e3 e4 pc m3 hbpy q0 q1 q2 cw1 hy1 hMj hpa hNL
 go_wp2_with fail
 go_cut [11,12,13] from 45 (fun s11 s12 s13 wx=>(∃ A c,s11=.slice A NL c∧s12=.int .i64 pa∧s13=.int .i64 0∧NdsV wx A c l)∧Below wj.heap.size wj wx)
 case first =>
  go_region_held3 (fun w'=>Below wj.heap.size wj w'∧w'.cell? ⟨w1.heap.size,2,none⟩=some (.slice (some ⟨bm,om,none⟩) (D b).n (C b))∧w'.cell? ⟨bp,op+b,none⟩=some (.int .i64 m)∧w'.cell? ⟨bm,om+m*4+3,none⟩=some (.string ((D b).mem m).formula))
   ((refine HKj.out _ ?_;go_grown;done))
   (first | (go_at_call 67;refine (HRd.out _).mono ?_;rintro e w3 ⟨⟨A3,c3,rfl,hI3⟩,hb3⟩;have hB3:=onB (W0:=wj) (by go_grown) hb3;have hy3:=hB3.size;clear hb3))
  all_goals go_wp2_with fail
  all_goals go_meet
  all_goals exact ⟨⟨A3,c3,rfl,rfl,rfl,hI3⟩,hB3⟩
 case rest =>
 obtain ⟨⟨Al,cl,rfl,rfl,rfl,hI4⟩,hB4⟩:=hcut
 obtain ⟨w4,rfl⟩:∃ w4:World,w4=wc:=⟨_,rfl⟩
 have HT4:Hid (TelB w (some ⟨bo,oo,none⟩) cap n w1.heap.size (D b) (some ⟨bm,om,none⟩) (C b) w4):=HTj.out.later hB4
 obtain ⟨hl0,hl30,-,-⟩:=form_right HFe2.out
 obtain ⟨-,-,h0 | ⟨bl,ol,rfl,hNd⟩⟩:=hI4
 ·rw [h0] at hl0;simp at hl0
 have hrf:=rrefs_any bl ol cl l w4 hl30 hNd
 have HNd:Hid (NdsAt w4 bl ol l):=hNd
 rw [HNL.out] at hrf hl0 hl30
 clear hB4 hNd e1' e2' e3' e4' pc' m3' hf'
 go_wp2_with fail
 refine hrf.mono ?_
 rintro e w5 ⟨⟨v5,R,rfl,hO5,hRt⟩,hb5⟩
 have HT5:Hid (TelB w (some ⟨bo,oo,none⟩) cap n w1.heap.size (D b) (some ⟨bm,om,none⟩) (C b) w5):=HT4.out.later hb5
 have HNd5:Hid (NdsAt w5 bl ol l):=HNd.out.later hb5
 have hRl:R.length≤30:=by have:=hRt.1;omega
 rw [←HNL.out] at hRt
 have HRt:Hid (RefsTo l l.length R):=hRt
 have HNm:Hid (∃ A c,v5=.slice A R.length c∧NmV w5 A c R):=by
  rcases row_str hO5 with ⟨rfl,rfl⟩ | ⟨g,c,rfl,-,h2,h3,h4,h5⟩
  ·exact ⟨none,0,rfl,by simp,by simp,by omega,Or.inl rfl⟩
  ·exact ⟨_,c,rfl,h3,by omega,h4,Or.inr ⟨g,0,rfl,h2,fun j hj=>by rw [Nat.zero_add];exact h5 j hj⟩⟩
 obtain ⟨An,cn,rfl,hNm⟩:=HNm.out
 have HNm5:Hid (NmV w5 An cn R):=hNm
 obtain ⟨NR,hNR⟩:∃ NR,R.length=NR:=⟨_,rfl⟩
 have HNR:Hid (R.length=NR):=hNR
 rw [hNR] at hRl ⊢
 have hNRI:(NR:Int)≤30:=by omega
 have HIn:Hid (∀ s∈R,∃ j:Nat,whL (D b) s.data.toList=(j:Int)∧j<(D b).n):=fun s hs=>by
  obtain ⟨i,h1,h2,h3⟩:=(hRt.2 s).1 hs
  have hnm:s.data.toList∈nmsOf (D b) m:=by
   unfold nmsOf
   rw [HLe.out,←h3]
   refine nms_has ?_ h2
   rw [List.getD_eq_getElem?_getD,List.getElem?_eq_getElem h1]
   exact List.getElem_mem h1
  have hz:=mNd_in ((need_names HFm.out.1 HFm.out.2.2 HFm.out.2.1 _).2 ⟨_,hnm,rfl⟩)
  exact ⟨(whL (D b) s.data.toList).toNat,by omega,by omega⟩
 obtain ⟨G,hG⟩:∃ G:ByteArray→Int×Int,G=fun s=>f (whL (D b) s.data.toList):=⟨_,rfl⟩
 have HG:Hid (∀ s,G s=f (whL (D b) s.data.toList)):=fun s=>by rw [hG]
 obtain ⟨i0,hi0,hz0,hz1,hz2⟩:=info_parts Tryz.infoCe
 clear hrf hO5 hRt hNm hb5 hNR hG HNm
 go_wp2_with fail
 go_loopg [15,16] NR (fun gg s15 s16 wr => ∃ (k:Nat) (u:Value),k≤NR∧gg=NR-k∧s16=.int .i64 k∧u=s15∧Hid (wr.ownsRow w5.heap.size 48 2 u k (cellsC ((R.take k).map G)))∧Hid (Below w5.heap.size w5 wr))
 case atStart=>exact ⟨0,_,Nat.zero_le _,rfl,rfl,rfl,World.ownsRow_nil _ _ _ _,Below.refl _ _⟩
 case round =>
  obtain ⟨wi,rfl⟩:∃ wi:World,wi=wr:=⟨_,rfl⟩
  obtain ⟨k,u,hk,rfl,rfl,rfl,HO,HBw⟩:=hrel
  have HTi:Hid (TelB w (some ⟨bo,oo,none⟩) cap n w1.heap.size (D b) (some ⟨bm,om,none⟩) (C b) wi):=HT5.out.later HBw.out
  by_cases hlt:k<NR
  ·have hki:(k:Int)<(NR:Int):=by omega
   have hkR:k<R.length:=by rw [HNR.out];exact hlt
   obtain ⟨hcn,-,-,h0 | ⟨bs,os,rfl,hbs,hcs⟩⟩:=HNm5.out.later HBw.out
   ·rw [h0] at hkR;simp at hkR
   have cs:=hcs k hkR
   rw [HNR.out] at hcn
   have hcnI:(NR:Int)≤(cn:Int):=by omega
   have hmem:R.getD k noS∈R:=by rw [List.getD_eq_getElem?_getD,List.getElem?_eq_getElem hkR];exact List.getElem_mem hkR
   obtain ⟨j,hj,hjn⟩:=HIn.out _ hmem
   obtain ⟨y,hy1,hy2,hy3⟩:=num_set HI.out hbn hjn
   have hyN:y<N:=by have:=HN.out;have:=HCL.out;omega
   have hyi:(y:Int)<(N:Int):=by omega
   have hGk:G (R.getD k noS)=CL.getD y noC:=by rw [HG.out,hj,HFe.out,hy1];rfl
   have HSn:Hid ((R.take (k+1)).map G=(R.take k).map G ++ [CL.getD y noC]):=by
    show _=_
    rw [List.take_succ_eq_append_getElem hkR,List.map_append,←hGk,List.getD_eq_getElem?_getD,List.getElem?_eq_getElem hkR]
    rfl
   obtain ⟨hcL,-,h0 | ⟨bc,oc,rfl,hCat⟩⟩:=HC.out.later HTi.out.1
   ·have:=HN.out;rw [h0] at this;simp at this;omega
   obtain ⟨g1,g2⟩:=hCat.2 y (by rw [HN.out];exact hyN)
   have hbci:bc<wi.heap.size:=hCat.1
   rw [HN.out] at hcL
   have hcLI:(N:Int)≤(cc:Int):=by omega
   obtain ⟨s,hs⟩:∃ s,R.getD k noS=s:=⟨_,rfl⟩
   rw [hs] at cs hj
   have HWh:Hid (∀ w',Below wi.heap.size wi w'→Calls Tryz.prog 70 #[.agg #[.string (D b).name,.int .i64 (D b).solve,.slice (some ⟨bm,om,none⟩) (D b).n (C b)],.string s] w' fun e w''=>e=.returned (.int .i64 j)∧Below w'.heap.size w' w''):=fun w' hw'=>by
    have hMs:=HMm.out w' (onB HTi.out.1 hw')
    have h:=where_any (D b) (some ⟨bm,om,none⟩) (C b) s w' hd12 ⟨by
     obtain ⟨-,h0 | ⟨b1,o1,h1,h2⟩⟩:=HM.out
     ·omega
     exact ((h2.2 b hbn).2.2.2).1,Or.inr ⟨bm,om,rfl,hMs⟩⟩
    rw [whL_same,hj] at h
    exact h
   have HWith:Hid (∀ w',Below wi.heap.size wi w'→Calls Tryz.prog 69 #[.slice (some ⟨bp,op,none⟩) n cp,.int .i64 b,.int .i64 j] w' fun e w''=>(∃ A' c',e=.returned (.slice A' n c')∧PlAt w'' A' c' (L.set b (j:Int)))∧Below w'.heap.size w' w''):=fun w' hw'=>by
    have h:=rwith_any (some ⟨bp,op,none⟩) cp L b (j:Int) w' (by omega) (by omega) (HP.out.later (onB HTi.out.1 hw'))
    rw [hl] at h
    exact h
   have HNum:Hid (∀ w' A' c',Below wi.heap.size wi w'→PlAt w' A' c' (L.set b (j:Int))→Calls Tryz.prog 17 #[.agg #[.slice (some ⟨bo,oo,none⟩) n cap],.slice A' n c'] w' fun e w''=>e=.returned (.int .i64 y)∧Below w'.heap.size w' w''):=fun w' A' c' hw' hp=>by
    have h:=rnumber_any (some ⟨bo,oo,none⟩) cap n D A C A' c' (L.set b (j:Int)) w' hy3 (HM.out.later (onB HTi.out.1 hw')) hp
    rw [hy1,List.length_set,hl] at h
    exact h
   obtain ⟨⟨v1,v2⟩,hv⟩:∃ v,CL.getD y noC=v:=⟨_,rfl⟩
   rw [hv] at g1 g2 HSn
   simp only at g1 g2
   obtain ⟨k1,k2,k3,k4⟩:=HTi.out.2.2.2
   obtain ⟨hswi,cw⟩:=HTi.out.2.1
   have HKp:Hid (∀ w',Below wi.heap.size wi w'→Below wi.heap.size wi w'∧w'.cell? ⟨w.heap.size,0,none⟩=some (.slice (some ⟨bo,oo,none⟩) n cap)∧w'.cell? ⟨w1.heap.size,0,none⟩=some (.string (D b).name)∧w'.cell? ⟨w1.heap.size,1,none⟩=some (.int .i64 (D b).solve)∧w'.cell? ⟨w1.heap.size,2,none⟩=some (.slice (some ⟨bm,om,none⟩) (D b).n (C b))∧w'.cell? ⟨bs,os+k,none⟩=some (.string s)∧w'.cell? ⟨bc,oc+y*2,none⟩=some (.int .i64 v1)∧w'.cell? ⟨bc,oc+y*2+1,none⟩=some (.int .i64 v2)):=fun w' h=>⟨h,(h.cell (p:=⟨w.heap.size,0,none⟩) hswi).trans cw,(h.cell (p:=⟨w1.heap.size,0,none⟩) k1).trans k2,(h.cell (p:=⟨w1.heap.size,1,none⟩) k1).trans k3,(h.cell (p:=⟨w1.heap.size,2,none⟩) k1).trans k4,(h.cell (p:=⟨bs,os+k,none⟩) hbs).trans cs,(h.cell (p:=⟨bc,oc+y*2,none⟩) hbci).trans g1,(h.cell (p:=⟨bc,oc+y*2+1,none⟩) hbci).trans g2⟩
   clear hmem hj hy1 hy2 hy3 hGk hCat hcs hs hv
   go_wp2_with fail
   go_cut [17] from 61 to 84 (fun s17 wx => ∃ q,s17=.pointer (some ⟨q,0,none⟩)∧At q v1 v2 wx∧Below wi.heap.size wi wx)
   case first =>
    go_region_held3 (fun w'=>Below wi.heap.size wi w'∧w'.cell? ⟨w.heap.size,0,none⟩=some (.slice (some ⟨bo,oo,none⟩) n cap)∧w'.cell? ⟨w1.heap.size,0,none⟩=some (.string (D b).name)∧w'.cell? ⟨w1.heap.size,1,none⟩=some (.int .i64 (D b).solve)∧w'.cell? ⟨w1.heap.size,2,none⟩=some (.slice (some ⟨bm,om,none⟩) (D b).n (C b))∧w'.cell? ⟨bs,os+k,none⟩=some (.string s)∧w'.cell? ⟨bc,oc+y*2,none⟩=some (.int .i64 v1)∧w'.cell? ⟨bc,oc+y*2+1,none⟩=some (.int .i64 v2))
     ((refine HKp.out _ ?_;go_grown;done))
     (first | (go_at_call 70;refine (HWh.out _ (by go_grown)).mono ?_;rintro e w6 ⟨rfl,hb6⟩;have hN6:=onB (W0:=wi) (by go_grown) hb6;have hy6:=hN6.size;obtain ⟨hc6,hf6⟩:=bcell hb6;have hz6:=bsize hb6;(try simp [Nat.add_one_le_iff] at hz6);clear hb6) | (go_at_call 69;refine (HWith.out _ (by go_grown)).mono ?_;rintro e w7 ⟨⟨A7,c7,rfl,hP7⟩,hb7⟩;have hN7:=onB (W0:=wi) (by go_grown) hb7;have HP7:Hid (PlAt w7 A7 c7 (L.set b (j:Int))):=hP7;have hy7:=hN7.size;obtain ⟨hc7,hf7⟩:=bcell hb7;have hz7:=bsize hb7;(try simp [Nat.add_one_le_iff] at hz7);(try have ha7:wi.heap.size<w7.heap.size:=by omega);clear hb7 hP7) | (go_at_call 17;refine (HNum.out _ _ _ (by go_grown) (HP7.out.later (by go_grown))).mono ?_;rintro e w8 ⟨rfl,hb8⟩;have hN8:=onB (W0:=wi) (by go_grown) hb8;have hy8:=hN8.size;obtain ⟨hc8,hf8⟩:=bcell hb8;have hz8:=bsize hb8;(try simp [Nat.add_one_le_iff] at hz8);(try have ha8:wi.heap.size<w8.heap.size:=by omega);(try have hd8:w6.heap.size<w8.heap.size:=by omega);clear hb8))
    all_goals go_wp2_with fail
    all_goals go_meet
    all_goals
     refine ⟨_,rfl,?_,by go_grown⟩
     first
      | exact At.new _ _ _ _
      | (refine At.set (u:=.int .i64 0) (v:=.int .i64 0) (by omega) ?_ ?_ <;> (rw [hc8 _ _ (by simp)];simp;done))
      | (refine At.set (u:=.int .i64 0) (v:=.int .i64 0) (by omega) ?_ ?_ <;> (rw [hc8 _ _ (by omega),hc7 _ _ (by simp)];simp;done))
      | (refine At.set (u:=.int .i64 0) (v:=.int .i64 0) (by omega) ?_ ?_ <;> (rw [hc8 _ _ (by omega),hc7 _ _ (by omega),hc6 _ _ (by simp)];simp;done))
   case rest =>
   obtain ⟨q,rfl,⟨hql,p0,p1⟩,hBc⟩:=hcut
   obtain ⟨w9,rfl⟩:∃ w9:World,w9=wc:=⟨_,rfl⟩
   have HB9:Hid (Below w5.heap.size w5 w9):=onB HBw.out hBc
   have HO9:Hid (w9.ownsRow w5.heap.size 48 2 u k (cellsC ((R.take k).map G))):=own_later HO.out hBc
   have hsz9:=HB9.out.size
   clear hBc cs g1 g2 k1 k2 k3 k4 cw HKp HWh HWith HNum
   go_wp2_with (at_builtin;refine wpList_append_own _ rfl _ _ 49 rfl w5.heap.size 48 i0 (.agg #[.int .i64 0,.int .i64 0]) 2 16 Tryz.underlying49 hi0 hz0 hz1 hz2 rfl (by decide) _ _ _ rfl (HO9.out.alloc _) ⟨w9.heap.size,0,none⟩ 1 1 [.int .i64 v1,.int .i64 v2] rfl rfl ?qe2 ?qe3 ?qe4 ?qe5 ?qe6 ?_)
   case qe2 =>
    intro j t hj
    have hadd:(⟨w9.heap.size,0,none⟩:Addr).add j=⟨w9.heap.size,j,none⟩:=by unfold Addr.add;split <;> simp_all
    rw [hadd,Lib.cell_of_heap (heap_alloc_new w9 (.cells #[.int .i64 v1,.int .i64 v2] 48))]
    simpa using hj
   case qe3=>intro t ht;simp at ht;rcases ht with rfl | rfl <;> rfl
   case qe4=>simp only [maxLen];omega
   case qe5=>omega
   case qe6=>simp;omega
   intro v' wz hown' hgrow hnil
   have HBz:Hid (Below w5.heap.size w5 wz):=grown_own HB9.out HO9.out hgrow
   have HOz:Hid (wz.ownsRow w5.heap.size 48 2 v' (k+1) (cellsC ((R.take (k+1)).map G))):=by
    show World.ownsRow ..
    rw [HSn.out,cellsC_append,List.map_take]
    exact hown'
   clear hown' hgrow hnil p0 p1
   go_wp2_with fail
   go_roundg (NR-(k+1))
   case measure=>omega
   case rel=>exact ⟨k+1,_,by omega,rfl,by go_num,rfl,HOz,HBz⟩
  ·have hke:k=NR:=by omega
   subst hke
   have HCx:Hid (∃ A c,u=.slice A k c∧CelV wi A c (R.map G)):=by
    have h:=HO.out
    rw [List.take_of_length_le (by rw [HNR.out];exact Nat.le_refl _)] at h
    have hlen:(R.map G).length=k:=by rw [List.length_map];exact HNR.out
    rw [←hlen] at h
    obtain ⟨A',c',e,hv⟩:=celV_ownR h
    rw [hlen] at e
    exact ⟨A',c',e,hv⟩
   obtain ⟨Ar,cr,rfl,hCv⟩:=HCx.out
   have hright:=HFe2.out
   have hgood:∀ c∈R.map G,okC c:=fun c hc=>by
    obtain ⟨s,hs,rfl⟩:=List.mem_map.1 hc
    obtain ⟨j,hj,hjn⟩:=HIn.out s hs
    rw [HG.out,hj,HFe.out]
    exact good_at HGd.out _
   have hmiss:missT R (treeOf l (l.length-1))=false:=by
    unfold missT
    rw [List.any_eq_false]
    intro s hs
    have hsR:s∈R:=(HRt.out.2 s).2 ((refs_mem hright s).1 hs)
    rcases where_cases R s with ⟨-,h2⟩ | ⟨i,h1,-,-⟩
    ·obtain ⟨i,hi,e⟩:=List.getElem_of_mem hsR
     exact absurd (by rw [List.getD_eq_getElem?_getD,List.getElem?_eq_getElem hi];exact e) (h2 i hi)
    ·rw [h1];simp
   have hval:valT R (R.map G) (treeOf l (l.length-1))=oneV (D b) f m:=by
    unfold oneV
    rw [if_neg HFm.out.2.2]
    have htre:treF (D b) m=treeOf l (l.length-1):=by unfold treF;rw [HLe.out]
    rw [htre]
    refine valG_names _ _ _ _ fun s hs=>?_
    have hsR:s∈R:=(HRt.out.2 s).2 ((refs_mem hright s).1 hs)
    rcases where_cases R s with ⟨-,h2⟩ | ⟨i,h1,h2,h3⟩
    ·obtain ⟨i,hi,e⟩:=List.getElem_of_mem hsR
     exact absurd (by rw [List.getD_eq_getElem?_getD,List.getElem?_eq_getElem hi];exact e) (h2 i hi)
    ·unfold refC
     rw [h1,Int.toNat_natCast,List.getD_eq_getElem?_getD,List.getElem?_map,List.getElem?_eq_getElem h2]
     rw [List.getD_eq_getElem?_getD,List.getElem?_eq_getElem h2] at h3
     simp only [Option.map_some,Option.getD_some] at h3 ⊢
     rw [h3,HG.out]
   have hrk:=rreckon_len bl ol cl l (form_right hright).2.2.1 (by rw [HNL.out];exact hl30) An cn R Ar cr (R.map G) (by rw [List.length_map]) hgood (l.length-1) (by rw [HNL.out];omega) wi (HNd5.out.later HBw.out) (HNm5.out.later HBw.out) hCv hmiss
   rw [hval,List.length_map,HNR.out,HNL.out] at hrk
   obtain ⟨⟨ra,rb⟩,hRe⟩:∃ r,oneV (D b) f m=r:=⟨_,rfl⟩
   have HRe:Hid (oneV (D b) f m=(ra,rb)):=hRe
   rw [hRe] at hrk
   simp only at hrk
   have hNLi:((NL-1:Nat):Int)=(NL:Int)-1:=by omega
   rw [hNLi] at hrk
   have hl30I:(NL:Int)≤30:=by omega
   have hl0I:1≤(NL:Int):=by omega
   obtain ⟨z0,z1,z2,z3⟩:=pair_at HTi.out.2.2.1
   have hs1i:w.heap.size+1<wi.heap.size:=(Array.getElem?_eq_some_iff.1 HTi.out.2.2.1).1
   clear hCv hright hgood hmiss hval hRe hNLi HCx
   go_wp2_with fail
   refine hrk.mono ?_
   rintro e w9 ⟨rfl,hb9⟩
   have HB9:Hid (Below w.heap.size w w9):=onB HTi.out.1 hb9
   obtain ⟨e0,e1,g0,g1⟩:=pair_at ((hb9.block (w.heap.size+1) hs1i).trans HTi.out.2.2.1)
   have hs19:w.heap.size+1<w9.heap.size:=Nat.lt_of_lt_of_le hs1i hb9.size
   clear hb9 hrk z0 z1 z2 z3
   go_wp2_with fail
   refine bodyPost_ret (v:=.agg #[.int .i64 ra,.int .i64 rb]) (by simp [results,Tryz.results37,go_sem,e0,e1]) rfl ⟨by rw [HRe.out],?_⟩
   exact (HB9.out.setCell (Nat.le_succ _) _).setCell (Nat.le_succ _) _
end Go.Proofs.YtigkeokacagabafGreatDoor
