/- What tallylaw2.HallPla -/
import Derived.Test.YtohgnbgamfepoaaGreatDoorJHBR
import Derived.Test.YtohgnbgamfepoaaGreatDoorJHBS
import Derived.Test.YtohgnbgamfepoaaGreatDoorJHBU
namespace Go.Proofs.YtohgnbgamfepoaaGreatDoor
open ChangeShapes WideShapes ChangeAt RowKit
set_option maxRecDepth 99999
set_option maxHeartbeats 0
theorem DB (c:Int) (w:World) (a:gL w):Rt 6 #[errV c,.int .i64 c] w (.bool true):=by
 by_cases h:c=0
 ·subst h
  exact Gr 0 w
 rw [ak h];have:=Gq c c w a
 simpa using this
theorem Jm {W w':World} {q b o:Nat} {u v:Value} (h:q<W.heap.size∧b<W.heap.size∧W.cell? ⟨q,0,none⟩=some u∧W.cell? ⟨b,o,none⟩=some v) (a:Bl W w'):Bl W w'∧w'.cell? ⟨q,0,none⟩=some u∧w'.cell? ⟨b,o,none⟩=some v:=⟨a,aC a h.1 h.2.2.1,aC a h.2.1 h.2.2.2⟩
theorem xV (D:Nat→Dm) (n:Nat) (Y:List Ed) {k:Nat} (a:k<Y.length):(numsY D n Y).take (k+1)=(numsY D n Y).take k ++ [numI D (Y.getD k pp).pl n]:=by
 have b:(numsY D n Y).length=Y.length:=by simp [numsY]
 rw [List.take_succ_eq_append_getElem (by rw [b];exact a)]
 simp [numsY,zX a]
theorem xq (A0:Option Addr) (cap n:Nat) (D:Nat→Dm) (A:Nat→Option Addr) (C:Nat→Nat) (Ax:Option Addr) (cx:Nat) (zz:List EsL) (Ap:Option Addr) (cp:Nat) (p:List Int) (w:World) (hM:aW w A0 cap n D A C) (hX:D9 w Ax cx zz) (hP:aZ w Ap cp p) (hK:gL w) :
  Rt 3 #[.agg #[.slice A0 n cap],.slice Ax zz.length cx,.slice Ap p.length cp] w (.bool true):=by
 obtain ⟨i0,hi0,hz0,hz1,hz2⟩:=info_parts Tryz.infoInt;have q:=ao w A0 n cap 24;have l:Hid (∀ w1,Below (ax w A0 n cap 24).heap.size (ax w A0 n cap 24) w1→w1.cell? ⟨w.heap.size,0,none⟩=some (.slice A0 n cap)∧w.heap.size<w1.heap.size):=fun w1 h=>CO h
 obtain ⟨W,hW⟩:=az (ax w A0 n cap 24);rw [hW] at q l;unfold ax at hW;have HB0:=aa q;obtain ⟨o0,hq0⟩:=l.out W (zS);have HK0:Hid (∀ w',Bl W w'→gL w'):=fun w' a=>hK.later (ae q a)
 have hri:=yZ A0 cap n D A C W (hM.later q);obtain ⟨xl,hxl⟩:=az zz.length;have Z:=aa hxl;have hx9:(xl:Int)≤9223372036854775807:=by have f:=hX.1;have K:=hX.2.1;omega
 obtain ⟨pl,hpl⟩:=az p.length;have HPl:=aa hpl;rw [hxl,hpl];have HSm:Hid (∀ c w',Bl W w'→Rt 6 #[errV c,.int .i64 c] w' (.bool true)):=fun c w' a=>DB c w' (HK0.out w' a)
 by_cases hr:(aO D n).2.2=0
 case neg =>
  have HNb:Hid (∀ w',Bl W w'→Rt 5 #[.agg #[.slice A0 n cap]] w' (.tuple #[.pointer none,errV (aO D n).2.2])):=fun w' a=>um A0 cap n D A C w' hr (hM.later (ae q a))
  have hz:((aO D n).2.2 != 0)=true:=by simpa using hr
  generalize (aO D n).2.2=E0 at hri HNb hz;clear hM hX hP hK q hr hxl hpl
  go_enter Tryz.func3,Tryz.ntmps3
  go_wp2_with fail;refine hri.mono ?_;rintro e w1 ⟨rfl,u⟩;obtain ⟨o1,hq1⟩:=l.out w1 u;have HB1:=aa u;have hnb:=HNb.out w1 u;clear hri u o0 hq0 hW;go_wp2_with fail;refine hnb.mono ?_;rintro e w2 ⟨rfl,hb2⟩;have HB2:=aa (ae HB1.out hb2);have O:=HSm.out E0 w2 HB2.out;clear hnb hb2 o1 hq1;go_wp2_with fail;refine O.mono ?_;rintro e w3 ⟨rfl,hb3⟩;have HB3:=aa (ae HB2.out hb3);clear O hb3;go_wp2_with fail;go_ret;exact ⟨rfl,ae HB0.out HB3.out⟩
 obtain ⟨hE,hR⟩:=ex hr;obtain ⟨hn1,hn4,hp3,hd⟩:=au hE;rw [hr] at hri;have HNw:Hid (∀ w',Bl W w'→Calls Tryz.prog 5 #[.agg #[.slice A0 n cap]] w' fun e w''=>(∃ h S,e=.returned (.tuple #[.pointer (some ⟨h,0,none⟩),.nilIface])∧HV w'' h S D n []∧∀ b,S b→w'.heap.size≤b)∧Bl w' w''):=fun w' a=>uo A0 cap n D A C w' hr (hM.later (ae q a))
 have HM:Hid (∀ w',Bl W w'→aW w' A0 cap n D A C):=fun w' a=>hM.later (ae q a)
 have HX:=aa (hX.later q);have HP:Hid (∀ w',Bl W w'→aZ w' Ap cp p):=fun w' a=>hP.later (ae q a)
 have P:Hid ((aO D n).2.2=0∧(am D n).2.2=0∧dI D n):=⟨hr,hE,hR⟩;have HRp:Hid (∀ w',Bl W w'→Rt 16 #[.agg #[.slice A0 n cap],.slice Ap pl cp] w' (.int .i64 (placeErr D n p))):=fun w' a=>by
  have h:=kL A0 cap n D A C Ap cp p w' hE (HM.out w' a) (HP.out w' a);rw [←gi hE,hpl] at h;exact h
 clear hM hX hP hK q hr hE hR hn1 hn4 hd hxl hpl
 go_enter Tryz.func3,Tryz.ntmps3
 go_wp2_with fail;refine hri.mono ?_;rintro e V ⟨rfl,u⟩;obtain ⟨o1,hq1⟩:=l.out V u;have HBV:=aa u;have hnw:=HNw.out V u;clear hri u o0 hq0 hW;go_wp2_with fail;refine hnw.mono ?_;rintro e w2 ⟨⟨h,S0,rfl,hH,hS⟩,hb2⟩;have HB2:=aa hb2;have HH2:=aa hH;have HhV:=aa (hS h hH.2.2.1);have O:=HSm.out 0 w2 (ae HBV.out hb2);rw [errV_zero] at O;clear hnw hb2 hH hS o1 hq1 HNw;go_wp2_with fail;refine O.mono ?_;rintro e w3 ⟨rfl,hb3⟩;have HR0:Hid (fJ w3 none 0 []∧HV w3 h S0 D n []∧Bl V w3):=⟨⟨b7.nil _ _ _ (by omega),fun _=>rfl⟩,mo.later HH2.out hb3,ae HB2.out hb3⟩
 clear O hb3;obtain ⟨M,hMe⟩:=az (min xl 12);have hM12:M≤12:=by omega
 have hMx:M≤xl:=by omega
 go_wp2_with fail
 go_loopg [10,11,12] M (fun gg s10 s11 s12 wr => ∃ (i:Nat) (B:Option Addr) (c:Nat) (us:List EnL) (S:Nat→Prop),i≤M∧gg=M-i∧s12=.int .i64 i∧s10=.bool true∧s11=.slice B us.length c∧Hid (fJ wr B c us∧HV wr h S D n (lE us)∧Bl V wr))
 case atStart=>exact ⟨0,none,0,[],S0,zU,rfl,rfl,rfl,rfl,HR0⟩
 case round =>
  obtain ⟨i,B,c,us,S,hi,rfl,rfl,rfl,rfl,HRel⟩:=hrel;obtain ⟨wo,rfl⟩:∃ x:World,x=wr:=⟨_,rfl⟩
  by_cases hlt:i<M
  ·have hiI:(i:Int)<(xl:Int):=by omega
   have hi12:(i:Int)<12:=by omega
   obtain ⟨hEn,hH,hBV⟩:=HRel.out;have hBW:Bl W wo:=ae HBV.out hBV;obtain ⟨hcx,-,h0 | ⟨bx,ox,rfl,hbx,hXs⟩⟩:=HX.out.later hBW
   ·have:=Z.out;rw [h0] at this;simp at this;omega
   obtain ⟨xc,hEd⟩:=hXs i (by rw [Z.out];omega)
   rw [Z.out] at hcx;have hcxI:(xl:Int)≤(cx:Int):=by omega
   obtain ⟨c0,hs0⟩:=l.out wo hBW;have u:bx<W.heap.size:=by
    obtain ⟨-,-,h0 | ⟨b',o',e,f,-⟩⟩:=HX.out
    ·have:=Z.out;rw [h0] at this;simp at this;omega
    cases e;exact f
   have s:Hid (∀ w',Bl W w'→w'.cell? ⟨bx,ox+i,none⟩=some (.slice (zz.getD i noE).A (zz.getD i noE).ys.length (zz.getD i noE).c)∧bx<w'.heap.size∧ks w' (zz.getD i noE).A (zz.getD i noE).c (zz.getD i noE).ys):=fun w' a=>by
    obtain ⟨-,-,h0 | ⟨b',o',e,f,K⟩⟩:=HX.out.later a
    ·have:=Z.out;rw [h0] at this;simp at this;omega
    cases e;exact ⟨(K i (by rw [Z.out];omega)).1,f,(K i (by rw [Z.out];omega)).2⟩
   generalize zz.getD i noE=z at xc hEd s;obtain ⟨ys,Ay,cy⟩:=z;simp only at xc hEd s;have hEs:Ens D n (lE us):=hH.2.1.2;have HEd:Hid (∀ w',Bl wo w'→Calls Tryz.prog 7 #[.agg #[.slice A0 n cap],.slice B us.length c,.slice Ay ys.length cy] w' fun e w''=>(∃ B' X vs,e=.returned (.tuple #[.slice B' vs.length X,.int .i64 (editsV D n (lE us) (lD ys)).2.1,.int .i64 (doE D n (lE us) (lD ys))])∧fJ w'' B' X vs∧lE vs=(editsV D n (lE us) (lD ys)).1)∧Bl w' w''):=fun w' a=>Gi A0 cap n D A C B c us Ay cy ys w' (HM.out w' (ae hBW a)) (hEn.later a) (hEd.later a)
   have J:Hid (w.heap.size<wo.heap.size∧bx<wo.heap.size∧wo.cell? ⟨w.heap.size,0,none⟩=some (.slice A0 n cap)∧wo.cell? ⟨bx,ox+i,none⟩=some (.slice Ay ys.length cy)):=⟨hs0,hbx,c0,xc⟩;have HHr:=aa hH;have HEr:=aa hEn;have HBr:=aa hBV;have HEs:=aa hEs;obtain ⟨ul,hul⟩:=az us.length;obtain ⟨yl,hyl⟩:=az ys.length;have HUl:=aa hul;have d:=aa hyl;obtain ⟨E,hEe⟩:=az (doE D n (lE us) (lD ys));have HEe:=aa hEe;rw [hul,hyl,hEe] at HEd;rw [hyl] at xc s J;rw [hul];clear hEn hH hBV hEd hEs hXs hul hyl hEe
   go_upto_region 10 with fail
   go_cut [13,14,15] from 45 to 161 (fun s13 s14 s15 wx=>s15=.int .i64 E∧∃ B' X vs,s13=.slice B' vs.length X∧fJ wx B' X vs∧lE vs=(editsV D n (lE us) (lD ys)).1∧Bl wo wx)
   case first =>
    go_region_held3 (fun w'=>Bl wo w'∧w'.cell? ⟨w.heap.size,0,none⟩=some (.slice A0 n cap)∧w'.cell? ⟨bx,ox+i,none⟩=some (.slice Ay yl cy))
     ((refine Jm J.out ?_;go_grown;done))
     (first
      | (go_at_call 7;refine (HEd.out _ (by go_grown)).mono ?_;rintro e wa ⟨⟨Ba,ca,vs,rfl,hva,hvl⟩,hba⟩;have hNa:=ae (W0:=wo) (by go_grown) hba;have hsa:=hNa.size;clear hba))
    all_goals go_wp2_with fail
    all_goals go_meet
    all_goals exact ⟨rfl,_,_,vs,rfl,hva.later (by go_grown),hvl,by go_grown⟩
   case rest =>
   obtain ⟨rfl,B1,c1,vs,rfl,hEv,hvl,hB1⟩:=hcut;obtain ⟨wa,rfl⟩:∃ x:World,x=wc:=⟨_,rfl⟩;have HEv:=aa hEv;have HVl:=aa hvl;have HBa:=aa hB1;have HBaW:=aa (ae (ae HBV.out HBr.out) hB1);clear hEv hvl hB1 c0 hs0 xc hbx HEd J
   go_upto_if 67 with fail
   go_cut [11,16,17,18] from 45 to 161 (fun s11 s16 s17 s18 wx => ∃ B2 c2 us2,s11=.slice B2 us2.length c2∧s16=.int .i64 (doN D n (lE us) (lD ys):Nat)∧fJ wx B2 c2 us2∧lE us2=doL D n (lE us) (lD ys)∧Bl wo wx)
   case first =>
    by_cases hE0:E=0
    ·have r:=HEe.out
     rw [hE0] at r;obtain ⟨hy60,-,hdk⟩:=jq HEs.out r;rw [lD_len,d.out] at hy60;rw [lD_len,d.out] at hdk;have HVl2:Hid (lE vs=doL D n (lE us) (lD ys)):=by show _=_;rw [HVl.out];unfold doL;rw [if_pos r]
     have Y:Hid (doN D n (lE us) (lD ys)=(drtL D n (numsY D n (lD ys))).length):=(oJ P.out.1 HEs.out r).2.2;have HNu:Hid (∀ k w',k<yl→Bl W w'→Rt 8 #[.agg #[.slice A0 n cap],.slice (ys.getD k noD).A (ys.getD k noD).x.pl.length (ys.getD k noD).c] w' (.int .i64 (numI D (ys.getD k noD).x.pl n))):=fun k w' hk a=>by
      obtain ⟨f,K⟩:=hdk k hk;rw [sz] at f;have hp:aZ w' (ys.getD k noD).A (ys.getD k noD).c (ys.getD k noD).x.pl:=by
       obtain ⟨-,-,h0 | ⟨b,o,-,hs⟩⟩:=(s.out w' a).2.2
       ·rw [h0] at d;have:=d.out;simp at this;omega
       exact (hs.2 k (by rw [d.out];exact hk)).2.2.2
      exact fP A0 cap n D A C _ _ _ w' (K.edit f).1 (HM.out w' a) hp
     have HQn:Hid (∀ z∈numsY D n (lD ys),∃ j:Nat,z=(j:Int)∧j<prodN D n):=fun z hz=>by
      unfold numsY at hz;obtain ⟨x,hx,rfl⟩:=List.mem_map.1 hz;obtain ⟨k,hk,e⟩:=List.getElem_of_mem hx;rw [lD_len,d.out] at hk;obtain ⟨f,K⟩:=hdk k hk;have e2:(lD ys).getD k pp=x:=by rw [zZ,zX (by rw [lD_len,d.out];exact hk),e];rfl
      rw [e2] at f;have hbd:=a8 (K.edit f).1 (Nat.le_refl n);exact ⟨(numI D x.pl n).toNat,by omega,by omega⟩
     have HNl:Hid ((numsY D n (lD ys)).length=yl):=by show _=_;simp [numsY,lD_len,d.out]
     have HTk:Hid (∀ k,k<yl→(numsY D n (lD ys)).take (k+1)=(numsY D n (lD ys)).take k ++ [numI D (ys.getD k noD).x.pl n]):=fun k hk=>by
      have h:=xV D n (lD ys) (k:=k) (by rw [lD_len,d.out];exact hk)
      rw [sz] at h;exact h
     have HDt:Hid (∀ w' A' X,Bl W w'→aZ w' A' X (numsY D n (lD ys))→Calls Tryz.prog 9 #[.agg #[.slice A0 n cap],.slice A' yl X] w' fun e w''=>(∃ A2 c2,e=.returned (.slice A2 (doN D n (lE us) (lD ys)) c2))∧Bl w' w''):=fun w' A' X a hQ=>by
      have h:=yT A0 cap n D A C A' X (numsY D n (lD ys)) w' P.out.2.1 P.out.2.2 (HM.out w' a) hQ (by rw [HNl.out];omega) HQn.out
      rw [HNl.out,←Y.out] at h;exact h.mono fun _ _ ⟨⟨A2,c2,a1,_⟩,a2⟩=>⟨⟨A2,c2,a1⟩,a2⟩
     have hylI:(yl:Int)≤60:=by omega
     have hdn9:(doN D n (lE us) (lD ys):Int)≤3000:=by have f:=Y.out;have K:(drtL D n (numsY D n (lD ys))).length≤3000:=pV P.out.2.1 _;omega
     obtain ⟨NN,hNN⟩:=az (doN D n (lE us) (lD ys));have HNN:=aa hNN;rw [hNN] at Y HDt hdn9;clear hNN;generalize numsY D n (lD ys)=QL at Y HDt HTk HNl HQn;subst hE0;obtain ⟨x1,x2,-⟩:=s.out wa HBaW.out;clear r hdk Y HQn;go_wp2_with fail;clear x1 x2
     go_loopg [17,18] yl (fun gg s17 s18 wk => ∃ (k:Nat) (v:Value),k≤yl∧gg=yl-k∧s18=.int .i64 k∧v=s17∧Hid (wk.ownsRow wa.heap.size 3 1 v k (aE (QL.take k)))∧Hid (Bl wa wk))
     case atStart=>exact ⟨0,_,zU,rfl,rfl,rfl,aa (by simpa [aE] using World.ownsRow_nil _ _ _ _),zS⟩
     case round =>
      obtain ⟨wk,rfl⟩:∃ x:World,x=wr:=⟨_,rfl⟩;obtain ⟨k,v,hk,rfl,rfl,rfl,HOw,HBk⟩:=hrel;have g:=aa (ae HBaW.out HBk.out);obtain ⟨x1,x2,-⟩:=s.out wk g.out
      by_cases hkt:k<yl
      ·have hki:(k:Int)<(yl:Int):=by omega
       have hky:k<ys.length:=by rw [d.out];exact hkt
       obtain ⟨hcy,-,h0 | ⟨by',oy,rfl,hEds⟩⟩:=(s.out wk g.out).2.2
       ·have:=d.out;rw [h0] at this;simp at this;omega
       rw [d.out] at hcy;have hcyI:(yl:Int)≤(cy:Int):=by omega
       have HCl:Hid (∀ w',Bl wk w'→w'.cell? ⟨w.heap.size,0,none⟩=some (.slice A0 n cap)∧w'.cell? ⟨bx,ox+i,none⟩=some (.slice (some ⟨by',oy,none⟩) yl cy)∧w'.cell? ⟨by',oy+k*3,none⟩=some (.slice (ys.getD k noD).A (ys.getD k noD).x.pl.length (ys.getD k noD).c)∧w.heap.size<w'.heap.size∧bx<w'.heap.size∧by'<w'.heap.size):=fun w' a=>by
        obtain ⟨a1,a2⟩:=l.out w' (ae g.out a);obtain ⟨a3,a4,-⟩:=s.out w' (ae g.out a);exact ⟨a1,a3,(a.cell (p:=⟨by',oy+k*3,none⟩) hEds.1).trans (hEds.2 k hky).1,a2,a4,zW hEds.1 a.size⟩
       obtain ⟨y0,y1,y2,y3,y4,y5⟩:=HCl.out wk (zS);have HNy:Hid (∀ w',Bl wk w'→Rt 8 #[.agg #[.slice A0 n cap],.slice (ys.getD k noD).A (ys.getD k noD).x.pl.length (ys.getD k noD).c] w' (.int .i64 (numI D (ys.getD k noD).x.pl n))):=fun w' a=>HNu.out k w' hkt (ae g.out a)
       have HT1:=aa (HTk.out k hkt);generalize (ys.getD k noD).A=Aq at y2 HCl HNy;generalize (ys.getD k noD).c=cq at y2 HCl HNy;generalize numI D (ys.getD k noD).x.pl n=nI at HNy HT1;generalize (ys.getD k noD).x.pl.length=ql at y2 HCl HNy;have hwk:=HBk.out.size;have HFin:Hid (∀ (w4 w6:World) (o':Obj) (A6:Option Addr) (c6:Nat),Bl wk w4→w6.ownsRow wa.heap.size 3 1 (.slice A6 (k+1) c6) (k+1) (aE (QL.take k) ++ [.int .i64 nI])→(w4.alloc o').grownBy w6 v.ownBlock→Hid (w6.ownsRow wa.heap.size 3 1 (.slice A6 (k+1) c6) (k+1) (aE (QL.take (k+1))))∧Hid (Bl wa w6)):=fun w4 w6 o' A6 c6 h4 h6 hg=>by
        refine ⟨?_,bD (ae HBk.out h4) (an HOw.out h4) hg⟩
        show World.ownsRow ..
        rw [HT1.out,mapI_snoc];exact h6
       clear hEds hky x1 x2 HNu HTk HDt s HRp HSm HM HP HX HHr HEr HEv HVl HVl2;go_wp2_with fail
       go_region_law ((first
        | (refine step_append_lies _ (by rfl) _ _ _ (by rfl) wa.heap.size 3 i0 _ 1 8 Tryz.underlying26 hi0 hz0 hz1 hz2 rfl (by omega) v k (aE (QL.take k)) (by rfl) (an HOw.out (by go_grown)) ⟨w4.heap.size,0,none⟩ 1 1 [.int .i64 nI] (by rfl) (by rfl) (World.news_of_block (cs := #[.int .i64 nI]) (t:=3) (fr:=(0,0)) (heap_alloc_new w4 _)) (by simp [Value.oneCell']) (by omega) (by unfold maxLen;omega) (by omega) (by simp;omega) (w4.heap.size+1) (by simp) ?_;intro gg cg w6 hown6 hgrow hat hlt6)
        | (go_simp;refine (HNy.out _ (by go_grown)).mono ?_;rintro e w4 ⟨rfl,Q⟩;have hN4:=ae (W0:=wk) (by go_grown) Q;have hs4:=hN4.size;obtain ⟨q0,q1,q2,q3,q4,q5⟩:=HCl.out _ hN4;clear Q)))
       all_goals (obtain ⟨HO6,HB6⟩:=HFin.out _ _ _ _ _ (by go_grown) hown6 hgrow)
       all_goals clear hown6 hgrow hat
       all_goals go_wp2_with fail
       all_goals go_roundg (yl-(k+1))
       all_goals first | omega | exact ⟨k+1,_,by omega,rfl,by go_num,rfl,HO6,HB6⟩
      have hke:k=yl:=by omega
      subst hke;have hown:=HOw.out;rw [List.take_of_length_le (by rw [HNl.out];exact zT)] at hown
      obtain ⟨Aq,cq,hv,hIq⟩:=bQ (by rw [HNl.out];exact hown)
      rw [HNl.out] at hv;subst hv;have hdt:=HDt.out wk Aq cq g.out hIq.pl;obtain ⟨y0,y1⟩:=l.out wk g.out;have HFn:Hid (∀ w5,Bl wk w5→fJ w5 B1 c1 vs∧Bl wo w5):=fun w5 hb=>⟨(HEv.out.later HBk.out).later hb,ae HBa.out (ae HBk.out hb)⟩
      clear hown hIq;go_wp2_with fail;refine hdt.mono ?_;rintro e w5 ⟨⟨A5,c5,rfl⟩,u9⟩;have HF5:=aa (HFn.out w5 u9);clear hdt u9;go_wp2_with fail;go_meet;exact ⟨B1,c1,vs,rfl,by rw [HNN.out],HF5.out.1,HVl2.out,HF5.out.2⟩
    have hdl:doL D n (lE us) (lD ys)=lE us:=by unfold doL;rw [HEe.out,if_neg hE0]
    have hdn:doN D n (lE us) (lD ys)=0:=by unfold doN;rw [HEe.out,if_neg hE0]
    have hEb:(E == 0)=false:=by simpa using hE0
    have HDl:=aa hdl;have Y:=aa hdn;clear hE0 hdl hdn;go_wp2_with fail;go_meet;exact ⟨B,c,us,by rw [HUl.out],by rw [Y.out];rfl,HEr.out.later HBa.out,HDl.out.symm,HBa.out⟩
   case rest =>
   obtain ⟨B2,c2,us2,rfl,rfl,hE2,hl2,hB2⟩:=hcut;obtain ⟨wb,rfl⟩:∃ x:World,x=wc:=⟨_,rfl⟩;have HE2:=aa hE2;have HBb:=aa hB2;have HBbV:=aa (ae HBr.out hB2);have HBbW:=aa (ae HBV.out HBbV.out);have HHb:Hid (HV wb h S D n (lE us)):=mo.later HHr.out hB2;have HL2:=aa hl2;obtain ⟨x1,x2,hEdb⟩:=s.out wb HBbW.out;have r:=un h S D n (lE us) Ay cy ys wb HHb.out hEdb;rw [d.out,HEe.out] at r;have hEs2:=wS HEs.out (lD ys);have HDo9:Hid (doN D n (lE us) (lD ys)≤3000):=by
    show _≤_
    unfold doN
    split
    ·exact pV P.out.2.1 _
    omega
   have hdn9:(doN D n (lE us) (lD ys):Int)≤3000:=by have:=HDo9.out;omega
   rw [←hl2] at r hEs2;have HEs2:=aa hEs2;generalize doN D n (lE us) (lD ys)=NN at r hdn9 ⊢;clear hE2 hl2 hB2 hEdb hEs2 HEv HVl HBa HBaW HL2 HDo9;go_wp2_with fail;refine r.mono ?_;rintro e w4 ⟨⟨S4,rfl,hH4,-⟩,U⟩;have HB4:Hid (Bl V w4):=wu HBbV.out U fun b e=>by rw [e];exact HhV.out
   have H:=aa (ae HBV.out HB4.out);have HE4:Hid (fJ w4 B2 c2 us2):=⟨HE2.out.1.box HHb.out.box U,HE2.out.2⟩;have HH4:=aa hH4;have O:=HSm.out E w4 H.out;clear r U hH4 x1 x2;go_wp2_with fail;refine O.mono ?_;rintro e w5 ⟨rfl,u9⟩;have HB5:=aa u9;have HB5W:=aa (ae H.out u9);obtain ⟨y0,y1⟩:=l.out w5 HB5W.out;have hso:=zd A0 cap n D A C B2 c2 us2 w5 P.out.2.1 P.out.2.2 HEs2.out (HM.out w5 HB5W.out) (HE4.out.later u9).1;obtain ⟨CL,hCL⟩:=az (caL D n (lE us2));have hcu:=gz P.out.1 HEs2.out;have I:Hid (CL.length=prodN D n):=by show _=_;rw [←hCL];exact gO hcu
   have HLs:Hid (∀ L,L.length=prodN D n→(∀ j,j<prodN D n→L.getD j noC=ez D n (getE (lE us2)) (aj D n j))→L=CL):=fun L f K=>(Es hcu f K).trans hCL
   have HCe:Hid (∀ w',Bl w4 w'→Calls Tryz.prog 13 #[.pointer (some ⟨h,0,none⟩)] w' fun e w''=>(∃ A' X,e=.returned (.slice A' (prodN D n) X)∧dx w'' A' X CL)∧Bl w' w''):=fun w' a=>by
    have h':=oZ h S4 D n (lE us2) w' (mo.later HH4.out a);rw [hCL,I.out] at h';exact h'
   have HSc:Hid (∀ w' A1 c1 A2 c2,dx w' A1 c1 CL→dx w' A2 c2 CL→Rt 12 #[.slice A1 (prodN D n) c1,.slice A2 (prodN D n) c2] w' (.bool true)):=fun w' A1 c1 A2 c2 f K=>by
    have h':=qC A1 A2 c1 c2 CL w' (by rw [I.out];exact hp3) f K
    rw [I.out] at h';exact h'
   have HEt:Hid (∀ w',Bl w4 w'→Calls Tryz.prog 15 #[.pointer (some ⟨h,0,none⟩)] w' fun e w''=>(∃ A' X zs,e=.returned (.slice A' zs.length X)∧b7 w'' A' X zs∧lE zs=lE us2)∧Bl w' w''):=fun w' a=>lh h S4 D n (lE us2) w' (mo.later HH4.out a)
   have HSe:Hid (∀ w' A1 c1 zs A2 c2,b7 w' A1 c1 zs→b7 w' A2 c2 us2→lE zs=lE us2→Rt 14 #[.slice A1 zs.length c1,.slice A2 us2.length c2] w' (.bool true)):=fun w' A1 c1 zs A2 c2 f K e1=>by
    have hEz:=HEs2.out;rw [←e1] at hEz;exact te A1 A2 c1 c2 zs us2 w' e1 (kA hEz) (oV hEz) f K
   have HCk:Hid (∀ w',Bl w4 w'→Rt 17 #[.pointer (some ⟨h,0,none⟩),.slice Ap pl cp] w' (.tuple #[.agg #[.int .i64 (hcV D n (lE us2) p).1,.int .i64 (hcV D n (lE us2) p).2],errV (placeErr D n p)])):=fun w' a=>by
    have h':=Ci h S4 D n (lE us2) Ap cp p w' (mo.later HH4.out a) (HP.out w' (ae H.out a));rw [HPl.out] at h';exact h'
   have HHc:Hid (∀ m:Nat,placeErr D n p=0→numI D p n=(m:Int)→hcV D n (lE us2) p=CL.getD m noC):=fun m f K=>by unfold hcV;rw [if_pos f,K,Int.toNat_natCast,hCL]
   have HH0:Hid (placeErr D n p≠0→hcV D n (lE us2) p=(0,0)):=fun f=>by unfold hcV;rw [if_neg f]
   obtain ⟨u2,hu2⟩:=az us2.length;have HU2:=aa hu2;rw [hu2] at hso HSe;rw [hu2];clear O u9 hcu hCL hu2;go_wp2_with fail;refine hso.mono ?_;rintro e w6 ⟨⟨g6,L6,rfl,hL6,hC6,hv6⟩,K0⟩;have hLe:=HLs.out L6 hL6 hv6;rw [hLe] at hC6;have HC6:=aa hC6;have HB6:=aa (ae HB5.out K0);have hce:=HCe.out w6 HB6.out;clear hso hL6 hC6 hv6 K0 hLe y0 y1;obtain ⟨N,hN⟩:=az (prodN D n);have HN:=aa hN;rw [hN] at hce HSc I hp3 ⊢;have hNI:(N:Int)≤3000:=by omega
   clear hN HLs HCe;go_wp2_with fail;refine hce.mono ?_;rintro e w7 ⟨⟨A7,c7,rfl,hC7⟩,hb7⟩;have HB7:=aa (ae HB6.out hb7);have HC7:=aa (HC6.out.later hb7);have hsc:=HSc.out w7 A7 c7 (some ⟨g6,0,none⟩) N hC7 ⟨by rw [I.out];exact zT,by omega,Or.inr ⟨g6,0,rfl,HC7.out.celAt⟩⟩
   clear hce hC7 hb7;go_wp2_with fail;refine hsc.mono ?_;rintro e w8 ⟨rfl,G⟩;have HB8:=aa (ae HB7.out G);have HC8:=aa (HC7.out.later G);have het:=HEt.out w8 HB8.out;clear hsc G;go_wp2_with fail;refine het.mono ?_;rintro e w9 ⟨⟨A9,c9,zs,rfl,hz9,hl9⟩,hb9⟩;have HB9:=aa (ae HB8.out hb9);have HC9:=aa (HC8.out.later hb9);have hse:=HSe.out w9 A9 c9 zs B2 c2 hz9 (HE4.out.later HB9.out).1 hl9;generalize zs.length=zl9 at hse;clear het hb9 hz9 hl9 HEt HSe HSc;go_wp2_with fail;refine hse.mono ?_;rintro e u1 ⟨rfl,hbu1⟩;have HU1:=aa (ae HB9.out hbu1);have HU1W:=aa (ae H.out HU1.out);have HCu1:=aa (HC9.out.later hbu1);obtain ⟨y0,y1⟩:=l.out u1 HU1W.out;have hrp:=HRp.out u1 HU1W.out;clear hse hbu1;go_wp2_with fail;refine hrp.mono ?_;rintro e u2w ⟨rfl,T⟩;obtain ⟨u3,hu3⟩:∃ y,u2w.alloc (.cells #[.int .i64 0,.int .i64 0] 52)=y:=⟨_,rfl⟩;have hBu3:Bl u2w u3:=by rw [←hu3];go_grown
   have hk3:u3.heap[u2w.heap.size]?=some (.cells #[.int .i64 0,.int .i64 0] 52 (0,0)):=by rw [←hu3];exact heap_alloc_new ..
   have hs3:u3.heap.size=u2w.heap.size+1:=by rw [←hu3];simp
   have HU3:=aa (ae HU1.out (ae T hBu3));have HU3W:=aa (ae H.out HU3.out);have HCu3:=aa (HCu1.out.later (ae T hBu3));have HK3:=aa hk3;have hgu:g6<u2w.heap.size:=zW HCu1.out.lt T.size;have hw4u:w4.heap.size≤u2w.heap.size:=(ae HU1.out T).size;have z0:=(l.out u3 HU3W.out).1;have z1:=(l.out u3 HU3W.out).2;have HNp:Hid (placeErr D n p=0→∃ m:Nat,m<N∧hcV D n (lE us2) p=CL.getD m noC∧Rt 8 #[.agg #[.slice A0 n cap],.slice Ap pl cp] u3 (.int .i64 (m:Nat))):=fun hz=>by
    have hI:=fY hz;obtain ⟨m,f,K,-⟩:=xU hI;have h':=fP A0 cap n D A C Ap cp p u3 hI (HM.out u3 HU3W.out) (HP.out u3 HU3W.out);rw [f,HPl.out] at h';rw [HN.out] at K;exact ⟨m,K,HHc.out m hz f,h'⟩
   obtain ⟨F,hF⟩:=az (placeErr D n p);rw [hF] at HNp HH0 HCk ⊢;generalize hcV D n (lE us2) p=R at HNp HH0 HCk;obtain ⟨ra,rb⟩:=R;simp only at HCk;clear hrp T hBu3 y0 y1 hF HHc HRp
   go_upto_if 122 with fail
   go_cut [] from 45 to 161 (fun wx=>wx.heap[u2w.heap.size]?=some (.cells #[.int .i64 ra,.int .i64 rb] 52 (0,0))∧Bl w4 wx)
   case first =>
    by_cases hF0:F=0
    ·obtain ⟨m,hmN,hRm,hnu⟩:=HNp.out hF0
     have HRm:=aa hRm;have hmI:(m:Int)<(N:Int):=by omega
     subst hF0;clear hRm hk3;go_wp2_with fail;refine hnu.mono ?_;rintro e u4 ⟨rfl,Q⟩;obtain ⟨e0,e1⟩:=(HCu3.out.later Q).at (k:=m) (by rw [I.out];exact hmN)
     rw [←HRm.out] at e0 e1;simp only at e0 e1;have hgl:=(HCu3.out.later Q).lt;have U:u4.heap[u2w.heap.size]?=some (.cells #[.int .i64 0,.int .i64 0] 52 (0,0)):=(Q.block _ (by omega)).trans HK3.out
     obtain ⟨b0,b1,bf0,bf1⟩:=cF U;have hbl:u2w.heap.size<u4.heap.size:=(zY U).1;have HF4:Hid (((u4.setCell ⟨u2w.heap.size,0,none⟩ (.int .i64 ra)).setCell ⟨u2w.heap.size,1,none⟩ (.int .i64 rb)).heap[u2w.heap.size]?=some (.cells #[.int .i64 ra,.int .i64 rb] 52 (0,0))∧Bl w4 ((u4.setCell ⟨u2w.heap.size,0,none⟩ (.int .i64 ra)).setCell ⟨u2w.heap.size,1,none⟩ (.int .i64 rb))):=⟨cI (cI U),((ae HU3.out Q).setCell hw4u _).setCell hw4u _⟩;clear Q hnu U;go_wp2_with fail;go_meet;exact HF4.out
    have hz:=HH0.out hF0;have hFb:(F == 0)=false:=by simpa using hF0
    have HF4:Hid (u3.heap[u2w.heap.size]?=some (.cells #[.int .i64 ra,.int .i64 rb] 52 (0,0))∧Bl w4 u3):=by
     cases hz;exact ⟨HK3.out,HU3.out⟩
    clear hz hF0 hk3;go_wp2_with fail;go_meet;exact HF4.out
   case rest =>
   obtain ⟨hbox,hB5c⟩:=hcut;obtain ⟨u5,rfl⟩:∃ x:World,x=wc:=⟨_,rfl⟩;have HB5c:=aa hB5c;have HBox:=aa hbox;have hck:=HCk.out u5 hB5c;have hbl5:u2w.heap.size<u5.heap.size:=(zY hbox).1;clear hbox hB5c z0 z1 hu3 hk3 HNp HH0;go_wp2_with fail;refine hck.mono ?_;rintro e u6 ⟨rfl,K0⟩;obtain ⟨u7,hu7⟩:∃ y,u6.alloc (.cells #[.int .i64 ra,.int .i64 rb] 52)=y:=⟨_,rfl⟩;have hBu7:Bl u6 u7:=by rw [←hu7];go_grown
   have hk7:u7.heap[u6.heap.size]?=some (.cells #[.int .i64 ra,.int .i64 rb] 52 (0,0)):=by rw [←hu7];exact heap_alloc_new ..
   have HK7:=aa hk7;have hs7:u7.heap.size=u6.heap.size+1:=by rw [←hu7];simp
   have HU7:=aa (ae HB5c.out (ae K0 hBu7));have HBox7:Hid (u7.heap[u2w.heap.size]?=some (.cells #[.int .i64 ra,.int .i64 rb] 52 (0,0))):=((ae K0 hBu7).block _ hbl5).trans HBox.out;have hu6:=K0.size;have hsm7:=HSm.out F u7 (ae H.out HU7.out);clear hck K0 hBu7 hk7;go_wp2_with fail;refine hsm7.mono ?_;rintro e u8 ⟨rfl,G⟩;obtain ⟨a0,a1,-,-⟩:=cF ((G.block _ (by omega)).trans HBox7.out)
   obtain ⟨d0,d1,-,-⟩:=cF ((G.block _ (by omega)).trans HK7.out)
   have hs8:u2w.heap.size<u8.heap.size:=by have:=G.size;omega
   have hs86:u6.heap.size<u8.heap.size:=by have:=G.size;omega
   have HFin:Hid (fJ u8 B2 c2 us2∧HV u8 h S4 D n (lE us2)∧Bl V u8):=by
    have hb:=ae HU7.out G;exact ⟨HE4.out.later hb,mo.later HH4.out hb,ae HB4.out hb⟩
   clear hsm7 G hu7;go_wp2_with fail
   go_roundg (M-(i+1))
   case measure=>omega
   case rel=>exact ⟨i+1,B2,c2,us2,S4,by omega,rfl,by go_num,rfl,by rw [HU2.out],HFin⟩
  have hie:i=M:=by omega
  subst hie;have hcs:(¬ i<xl)∨(i<xl∧¬ i<12):=by omega
  obtain ⟨-,-,hBV⟩:=HRel.out;have HBf:=aa (ae HB0.out (ae HBV.out hBV));clear hBV
  rcases hcs with a1 | ⟨a1,a2⟩
  case' inl =>
   have t1:decide ((i:Int)<(xl:Int))=false:=decide_eq_false (by omega)
  case' inr =>
   have t1:decide ((i:Int)<(xl:Int))=true:=decide_eq_true (by omega)
   have t2:decide ((i:Int)<12)=false:=decide_eq_false (by omega)
  all_goals go_wp2_with fail
  all_goals go_ret
  all_goals exact ⟨rfl,HBf.out⟩
end Go.Proofs.YtohgnbgamfepoaaGreatDoor
